/- The reference's reading of an integer. -/
import Derived.Test.YtndkcimdbidgaaaDoorBrx
import Derived.Test.YtndkcimdbidgaaaDoorBru
import Derived.Test.YtndkcimdbidgaaaDoorBpa
namespace Go.Proofs.YtndkcimdbidgaaaDoor
open Go.ChangeShapes Go.WideShapes Go.ChangeAt Go.RowKit Go.ChangeMaps

open Lib
theorem dig_byte (b : UInt8) (h : isd b) : UInt8.ofNat (48 + (b.toNat - 48)) = b := by
  apply UInt8.toNat.inj
  have h1 := b.toNat_lt
  unfold isd at h
  rw [UInt8.toNat_ofNat']
  omega
theorem decT_dec (v : Nat) : decT (decDigits v) ∧ nv (decDigits v) = v ∧ ((decDigits v).head? = some 48 → v = 0) := by
  induction v using Nat.strongRecOn with
  | _ v ih =>
    have hb : ∀ d, d < 10 → (UInt8.ofNat (48 + d)).toNat = 48 + d := fun d hd => by rw [UInt8.toNat_ofNat']; omega
    by_cases h : v < 10
    · rw [decDigits, dif_pos h]
      have h1 := hb v h
      refine ⟨⟨by simp, fun b hb => ?_, fun _ => rfl⟩, ?_, fun e => ?_⟩
      · rw [List.mem_singleton.1 hb]
        unfold isd
        rw [h1]
        omega
      · show 10 * 0 + ((UInt8.ofNat (48 + v)).toNat - 48) = v
        rw [h1]
        omega
      · have e2 : UInt8.ofNat (48 + v) = 48 := by simpa using e
        rw [e2] at h1
        have h2 : (48 : UInt8).toNat = 48 := rfl
        omega
    · obtain ⟨⟨i1, i2, i3⟩, i4, i5⟩ := ih (v / 10) (by omega)
      rw [decDigits, dif_neg h]
      have h1 := hb (v % 10) (by omega)
      have hh : (decDigits (v / 10) ++ [UInt8.ofNat (48 + v % 10)]).head? = (decDigits (v / 10)).head? := by
        cases hd : decDigits (v / 10) with
        | nil => exact absurd hd i1
        | cons a l => rfl
      refine ⟨⟨by simp, fun b hb => ?_, fun e => ?_⟩, ?_, fun e => ?_⟩
      · rcases List.mem_append.1 hb with hb | hb
        · exact i2 b hb
        · rw [List.mem_singleton.1 hb]
          unfold isd
          rw [h1]
          omega
      · rw [hh] at e
        have := i5 e
        omega
      · rw [nv_snoc, i4, h1]
        omega
      · rw [hh] at e
        have := i5 e
        omega
theorem dec_decT : ∀ (k : Nat) (t : List UInt8), t.length = k → decT t → decDigits (nv t) = t
  | 0, t, hk, h => absurd (List.eq_nil_of_length_eq_zero hk) h.1
  | k + 1, t, hk, h => by
    obtain ⟨m, b, rfl⟩ : ∃ m b, t = m ++ [b] := by
      rcases List.eq_nil_or_concat t with e | ⟨m, b, e⟩
      · subst e; simp at hk
      · exact ⟨m, b, by simpa using e⟩
    have hbd := h.2.1 b (by simp)
    have hbb := dig_byte b hbd
    unfold isd at hbd
    rw [nv_snoc]
    by_cases hm : m = []
    · subst hm
      have e0 : nv [] = 0 := rfl
      rw [e0, decDigits, dif_pos (by omega), show 10 * 0 + (b.toNat - 48) = b.toNat - 48 by omega, hbb]
      rfl
    · have hh : (m ++ [b]).head? = m.head? := by
        cases m with
        | nil => exact absurd rfl hm
        | cons a l => rfl
      have hn48 : m.head? ≠ some 48 := fun e => by
        have := h.2.2 (hh.trans e)
        rw [List.length_append, List.length_singleton] at this
        have h1 : 0 < m.length := List.length_pos_iff.2 hm
        omega
      have hmT : decT m := ⟨hm, fun x hx => h.2.1 x (by simp [hx]), fun e => absurd e hn48⟩
      have i1 := dec_decT k m (by simpa using hk) hmT
      have hv : nv m ≠ 0 := fun e => by
        rw [e, decDigits, dif_pos (by decide)] at i1
        rw [← i1] at hn48
        exact hn48 rfl
      rw [decDigits, dif_neg (by omega), show (10 * nv m + (b.toNat - 48)) / 10 = nv m by omega, show (10 * nv m + (b.toNat - 48)) % 10 = b.toNat - 48 by omega, i1, hbb]
theorem fmtZ_sgn (neg : Bool) (v : Nat) : fmtZ (sgn neg v) = if neg = true ∧ v ≠ 0 then 45 :: decDigits v else decDigits v := by
  unfold fmtZ
  rw [sgn_abs]
  cases neg
  · rw [if_neg (by simp [sgn]), if_neg (by simp)]
  · by_cases h : v = 0
    · subst h; rfl
    · rw [if_pos (by have : sgn true v = -((v : Nat) : Int) := rfl; omega), if_pos ⟨rfl, h⟩]
/-- Which texts are read. -/
def PV (neg : Bool) (t : List UInt8) : Prop := decT t ∧ ¬ (neg = true ∧ t = [48])
theorem parse_iff {S t : List UInt8} {neg : Bool} (hS : S = if neg = true then 45 :: t else t) (hd : ∀ b ∈ t, isd b) : fmtZ (sgn neg (nv t)) = S ↔ PV neg t := by
  rw [fmtZ_sgn]
  obtain ⟨g1, g2, g3⟩ := decT_dec (nv t)
  constructor
  · intro h
    cases neg
    · rw [if_neg (by simp)] at h hS
      rw [hS] at h
      exact ⟨h ▸ g1, fun e => by simp at e⟩
    · rw [if_pos rfl] at hS
      by_cases h0 : nv t = 0
      · rw [if_neg (by simp [h0]), h0, decDigits, dif_pos (by decide), hS] at h
        exact absurd h (by simp)
      · rw [if_pos ⟨rfl, h0⟩, hS] at h
        injection h with _ h
        exact ⟨h ▸ g1, fun e => h0 (by rw [e.2]; rfl)⟩
  · rintro ⟨h1, h2⟩
    have h3 := dec_decT _ t rfl h1
    cases neg
    · rw [if_neg (by simp), hS, if_neg (by simp), h3]
    · by_cases h0 : nv t = 0
      · rw [h0, decDigits, dif_pos (by decide)] at h3
        exact absurd ⟨rfl, h3.symm⟩ h2
      · rw [if_pos ⟨rfl, h0⟩, hS, if_pos rfl, h3]
def RPP (w : World) (P : Prop) (z : Int) (K : Nat) (e : Ending) (w' : World) : Prop := (P → ∃ v, e = .returned (.tuple #[v, .int .i64 0]) ∧ NB w' w.heap.size v z K) ∧ (¬ P → e = .returned (.tuple #[.agg #[.bool false, .slice none 0 0], .int .i64 2])) ∧ Below w.heap.size w w'
theorem rtrim_r0 (v : Value) (x N : Nat) (w : World) (h : HR0 w v x N) : Calls Tryd.prog 70 #[v] w fun e w' => (∃ v', e = .returned v' ∧ HV w v' x N) ∧ w' = w := by
  obtain ⟨A, n, c, L, rfl, hg, hs, hv, hN⟩ := h
  refine (rtrim_any A n c L w hg hs).mono ?_
  rintro e w' ⟨⟨v, rfl, h1⟩, rfl⟩
  rw [hv] at h1
  exact ⟨⟨v, rfl, h1.mono hN⟩, rfl⟩
theorem r0_one (w : World) (d : Nat) (hd : d < 65536) : HR0 (w.alloc (.cells #[.int .i64 (d : Int)] 3)) (.slice (some ⟨w.heap.size, 0, none⟩) 1 1) d 1 := by
  refine ⟨_, 1, 1, [d], rfl, ⟨rfl, dok_cons.2 ⟨hd, dok_nil _⟩, fun _ => ⟨w.heap.size, 0, rfl, by simp, fun j e hj => ?_⟩⟩, Sl.own (Nat.le_refl _) (by decide), by simp [dv], Nat.le_refl _⟩
  match j, hj with
  | 0, hj => obtain rfl : d = e := (by simpa using hj); exact newcell 0 _ rfl rfl
  | j + 1, hj => simp at hj
def ryS (x d K : Nat) (i : Nat) (v : Value) (W : World) : Prop :=
  match i with
  | 1 => HV W v (x * 10) (K + 1)
  | 7 => HR0 W v d 1
  | 8 => HV W v d 1
  | 9 => HV W v (x * 10 + d) (K + 2)
  | _ => True
theorem ryS_mono (x d K : Nat) (i : Nat) (v : Value) (W W' : World) (h : ryS x d K i v W) (hb : Below W.heap.size W W') : ryS x d K i v W' := by
  unfold ryS at h ⊢
  split at h <;> first | exact h.below hb | trivial
/-- The digits of the first bytes, without the sign. -/
def pre (S : List UInt8) (sk i : Nat) : List UInt8 := (S.take i).drop sk
theorem pre_next {S : List UInt8} {sk i : Nat} {b : UInt8} (h : S[i]? = some b) (hs : sk ≤ i) : pre S sk (i + 1) = pre S sk i ++ [b] := by
  have hi : i < S.length := (List.getElem?_eq_some_iff.1 h).1
  unfold pre
  rw [List.take_add_one, h, Option.toList_some, List.drop_append_of_le_length (by rw [List.length_take]; omega)]
set_option maxRecDepth 100000 in
set_option maxHeartbeats 4000000 in
theorem RParse_any (s : ByteArray) (t : List UInt8) (neg : Bool) (w : World) (hS : s.data.toList = if neg = true then 45 :: t else t) (hnp : neg = false → s.data.toList.head? ≠ some 45) (hs : s.size ≤ 100) : Calls Tryd.prog 41 #[.string s] w (RPP w (PV neg t) (sgn neg (nv t)) (2 * s.size + 1)) := by
  obtain ⟨sk, hk⟩ : ∃ k, k = if neg = true then 1 else 0 := ⟨_, rfl⟩
  have HKK := Lib.hid hk
  have HTT := Lib.hid (show s.data.toList.drop sk = t from by rw [hk, hS]; cases neg <;> rfl)
  have HSS := Lib.hid hS
  obtain ⟨W0, hW0⟩ : ∃ W, W = w.alloc (.cells #[.bool false, .slice none 0 0] 24) := ⟨_, rfl⟩
  obtain ⟨W1, hW1⟩ : ∃ W, W = W0.alloc (.cells #[] 3) := ⟨_, rfl⟩
  have hb0 : Below w.heap.size w W0 := by rw [hW0]; exact (Below.refl _ w).alloc (Nat.le_refl _) _
  have HB := Lib.hid (show Below w.heap.size w W1 by rw [hW1]; exact hb0.alloc hb0.size _)
  have K2 := Lib.hid (show Blk W1 w.heap.size 24 #[.bool false, .slice none 0 0] by rw [hW1, hW0]; exact (Blk.new _ _ _).alloc _)
  have HV1 := Lib.hid (show HV W1 (.slice (some ⟨W0.heap.size, 0, none⟩) 0 0) 0 (2 * 0) from ⟨_, 0, 0, [], rfl, ⟨rfl, dok_nil _, fun h => absurd h (Nat.lt_irrefl 0)⟩, Sl.own (Nat.le_refl _) (by decide), nmz_nil, rfl, Nat.zero_le _⟩)
  rw [show W0.heap.size = w.heap.size + 1 by rw [hW0]; simp] at HV1
  have HW1 := Lib.hid hW1
  have HW0 := Lib.hid hW0
  clear hk hW0 hW1 hb0
  rcases Nat.eq_zero_or_pos s.size with hz | hp
  · have hzI : ¬ (s.size : Int) > 0 := by omega
    have hzJ : ¬ (0 : Int) < (s.size : Int) := by omega
    obtain rfl : neg = false := by
      cases neg
      · rfl
      · have h1 := congrArg List.length hS
        simp at h1
        omega
    clear hS
    go_enter Tryd.func41, Tryd.ntmps41
    go_wp2
    rw [← HW0.out, ← HW1.out]
    clear HW0 HW1
    go_loopw [5, 6] (fun s5 s6 wr => ∃ (i x : Nat), s6 = .int .i64 (i : Int) ∧ i ≤ s.size ∧ (∀ b ∈ pre s.data.toList sk i, isd b) ∧ nv (pre s.data.toList sk i) = x ∧ HV wr s5 x (2 * i) ∧ Below W1.heap.size W1 wr) (fun _ s6 _ => s.size - (RowKit.intOf s6).toNat)
    case atStart => exact ⟨0, 0, rfl, Nat.zero_le _, fun b hb => by simp [pre] at hb, by simp [pre, nv], HV1.out, Below.refl _ _⟩
    case round =>
      obtain ⟨i, x, rfl, hi, hdg, hvx, hx, hb⟩ := hrel
      have HDG := Lib.hid hdg
      have HVX := Lib.hid hvx
      have HX := Lib.hid hx
      have HBr := Lib.hid hb
      clear hdg hvx hx hb HV1
      have hlt : ¬ i < s.size := by omega
      obtain rfl : i = s.size := by omega
      have hlt2 : ¬ ((s.size : Int) < (s.size : Int)) := by omega
      have hpt : pre s.data.toList sk s.size = t := by
        unfold pre
        rw [show s.size = s.data.toList.length by simp, List.take_length]
        exact HTT.out
      have HDT := Lib.hid (show ∀ b ∈ t, isd b from by rw [← hpt]; exact HDG.out)
      have HPI := Lib.hid (parse_iff HSS.out HDT.out)
      rw [hpt] at HVX
      obtain rfl : nv t = x := HVX.out
      have CB := Lib.hid (big_hv false _ (nv t) (2 * s.size) wr HX.out (by omega))
      obtain ⟨z, hz⟩ : ∃ z, sgn false (nv t) = z := ⟨_, rfl⟩
      rw [hz] at CB HPI ⊢
      replace K2 := Lib.hid (K2.out.below HBr.out)
      replace HB := Lib.hid (HB.out.trans (HBr.out.mono HB.out.size))
      have HZE := Lib.hid hz
      clear hlt hpt hz
      go_wp2_with fail
      refine CB.out.mono ?_
      rintro e w6 ⟨v, rfl, hv, hb⟩
      have HV6 := Lib.hid (hv.mono HB.out.size (Nat.le_refl _))
      replace K2 := Lib.hid (K2.out.below hb)
      replace HB := Lib.hid (HB.out.trans (hb.mono HB.out.size))
      clear hv hb CB
      obtain ⟨Aq, nq, cq, Dq, hevq, hoq, hsq, hnq, hvq, hNq⟩ := HV6.out
      obtain ⟨sbq, hsbq⟩ : ∃ b, b = decide (z < 0) := ⟨_, rfl⟩
      rw [← hsbq] at hevq
      subst hevq
      have HSBq := Lib.hid hsbq
      clear hsbq
      obtain ⟨W7, hW7⟩ : ∃ W, W = w6.alloc (.cells #[.bool sbq, .slice Aq nq cq] 24) := ⟨_, rfl⟩
      obtain ⟨gq, hgq⟩ : ∃ g, w6.heap.size = g := ⟨_, rfl⟩
      have hal := (Below.refl w6.heap.size w6).alloc (Nat.le_refl _) (.cells #[.bool sbq, .slice Aq nq cq] 24)
      rw [← hW7] at hal
      have KQ := Lib.hid (show Blk W7 gq 24 #[.bool sbq, .slice Aq nq cq] by rw [hW7, ← hgq]; exact Blk.new _ _ _)
      have HNQ := Lib.hid (show NB W7 w.heap.size (.agg #[.bool sbq, .slice Aq nq cq]) z (2 * s.size + 1) from NB.below ⟨Aq, nq, cq, Dq, by rw [HSBq.out], hoq, hsq, hnq, hvq, by omega⟩ hal)
      have HGQ := Lib.hid (show w.heap.size < gq by rw [← hgq]; exact K2.out.lt)
      replace K2 := Lib.hid (K2.out.below hal)
      replace HB := Lib.hid (HB.out.trans (hal.mono HB.out.size))
      clear hal hoq hsq hnq hvq
      have KQ_0 : W7.cell? ⟨gq, 0, none⟩ = some (.bool sbq) := KQ.out.cell 0
      have KQ_1 : W7.cell? ⟨gq, 1, none⟩ = some (.slice Aq nq cq) := KQ.out.cell 1
      have CT := Lib.hid (RText_any _ z (2 * s.size + 1) W7 HNQ.out.bg (by omega))
      go_upto_region 11 with fail
      rw [← hW7]
      clear hW7 hgq
      go_wp2_with fail
      refine CT.out.mono ?_
      rintro e w8 ⟨rfl, hb⟩
      replace K2 := Lib.hid (K2.out.below hb)
      replace KQ := Lib.hid (KQ.out.below hb)
      replace HNQ := Lib.hid (HNQ.out.below hb)
      replace HB := Lib.hid (HB.out.trans (hb.mono HB.out.size))
      clear hb CT KQ_0 KQ_1
      obtain ⟨tx, htx⟩ : ∃ x : ByteArray, ⟨(fmtZ z).toArray⟩ = x := ⟨_, rfl⟩
      rw [htx]
      have HTE := Lib.hid (show tx = s ↔ PV false t from by
        rw [← HPI.out, ← htx]
        constructor
        · intro e
          have := congrArg (fun b : ByteArray => b.data.toList) e
          simpa using this
        · intro e
          apply ByteArray.ext
          rw [e, Array.toArray_toList])
      clear htx
      have KQ_0 : w8.cell? ⟨gq, 0, none⟩ = some (.bool sbq) := KQ.out.cell 0
      have KQ_1 : w8.cell? ⟨gq, 1, none⟩ = some (.slice Aq nq cq) := KQ.out.cell 1
      by_cases he : tx = s
      · have HP := Lib.hid (HTE.out.1 he)
        subst he
        go_wp2_with ((refine wpList_store_row (o := ⟨none, _, _, _, _, _⟩) rfl 24 _ _ rfl (w.heap.size) #[.bool sbq, .slice Aq nq cq] rfl rfl 24 _ K2.out (by kernel_rfl) rfl (by simp [Value.oneCell']) ?_))
        refine bodyPost_ret (results_ct rfl _ _ _ (w.heap.size) _ rfl (load24 (K2.out.setRow (ds := #[.bool sbq, .slice Aq nq cq])) rfl)) rfl ?_
        exact ⟨fun _ => ⟨_, rfl, by rw [HZE.out]; exact NB.row HNQ.out K2.out _⟩, fun h => absurd HP.out h, HB.out.grown (grown_row w8 (w.heap.size) _) HB.out.size (fun j hj => by injection hj with hj; omega)⟩
      · have HP := Lib.hid (show ¬ PV false t from fun h => he (HTE.out.2 h))
        have hl : tx.toList ≠ s.toList := fun e => he (by
          rw [ByteArray.toList_eq, ByteArray.toList_eq] at e
          exact ByteArray.ext (Array.toList_inj.1 e))
        have he1 : (tx.toList == s.toList) = false := by simpa using hl
        clear he hl
        go_wp2_with ((refine wpList_store_row (o := ⟨none, _, _, _, _, _⟩) rfl 24 _ _ rfl (w.heap.size) #[.bool false, .slice none 0 0] rfl rfl 24 _ K2.out (by kernel_rfl) rfl (by simp [Value.oneCell']) ?_))
        refine bodyPost_ret (results_ct rfl _ _ _ (w.heap.size) _ rfl (load24 (K2.out.setRow (ds := #[.bool false, .slice none 0 0])) rfl)) rfl ?_
        exact ⟨fun h => absurd h HP.out, fun _ => rfl, HB.out.grown (grown_row w8 (w.heap.size) _) HB.out.size (fun j hj => by injection hj with hj; omega)⟩
  · have hpI : (s.size : Int) > 0 := by omega
    have hpJ : (0 : Int) < (s.size : Int) := by omega
    have hneg : ((s[0].toNat : Int) == 45) = neg := by
      have h1 : s.data.toList[0]? = some s[0] := by rw [Array.getElem?_toList, Array.getElem?_eq_getElem hp]; rfl
      cases neg
      · have hf := hnp rfl
        have : s[0] ≠ 45 := fun e => hf (by rw [List.head?_eq_getElem?, h1, e])
        have h2 : s[0].toNat ≠ 45 := fun e => this (UInt8.toNat.inj e)
        simp
        omega
      · rw [hS] at h1
        have : (45 : UInt8) = s[0] := by simpa using h1
        rw [← this]
        rfl
    clear hS
    go_enter Tryd.func41, Tryd.ntmps41
    go_wp2
    rw [← HW0.out, ← HW1.out]
    clear HW0 HW1 hneg
    go_loopw [5, 6] (fun s5 s6 wr => ∃ (i x : Nat), s6 = .int .i64 (i : Int) ∧ i ≤ s.size ∧ (∀ b ∈ pre s.data.toList sk i, isd b) ∧ nv (pre s.data.toList sk i) = x ∧ HV wr s5 x (2 * i) ∧ Below W1.heap.size W1 wr) (fun _ s6 _ => s.size - (RowKit.intOf s6).toNat)
    case atStart => exact ⟨0, 0, rfl, Nat.zero_le _, fun b hb => by simp [pre] at hb, by simp [pre, nv], HV1.out, Below.refl _ _⟩
    case round =>
      obtain ⟨i, x, rfl, hi, hdg, hvx, hx, hb⟩ := hrel
      have HDG := Lib.hid hdg
      have HVX := Lib.hid hvx
      have HX := Lib.hid hx
      have HBr := Lib.hid hb
      clear hdg hvx hx hb HV1
      by_cases hlt : i < s.size
      · have hltI : (i : Int) < (s.size : Int) := by omega
        have HBY := Lib.hid (show s.data.toList[i]? = some s[i] from by rw [Array.getElem?_toList, Array.getElem?_eq_getElem hlt]; rfl)
        have hbl := s[i].toNat_lt
        by_cases h0 : i = 0
        · have hi0 : ((i : Int) == 0) = true := by simp [h0]
          have H0 := Lib.hid h0
          clear h0
          cases neg
          · have HSK := Lib.hid (show sk ≤ i from by rw [HKK.out]; simp)
            rcases Nat.lt_or_ge s[i].toNat 48 with hb1 | hb1
            · have hb1I : (s[i].toNat : Int) < 48 := by omega
              have HNP := Lib.hid (show ¬ PV false t from fun h => by
                have h1 := h.1.2.1 s[i] (by rw [← HTT.out]; exact List.mem_of_getElem? (show (s.data.toList.drop sk)[i - sk]? = some s[i] from by rw [List.getElem?_drop, show sk + (i - sk) = i by have := HSK.out; omega]; exact HBY.out))
                unfold isd at h1
                omega)
              replace K2 := Lib.hid (K2.out.below HBr.out)
              replace HB := Lib.hid (HB.out.trans (HBr.out.mono HB.out.size))
              go_wp2_with ((refine wpList_store_row (o := ⟨none, _, _, _, _, _⟩) rfl 24 _ _ rfl (w.heap.size) #[.bool false, .slice none 0 0] rfl rfl 24 _ K2.out (by kernel_rfl) rfl (by simp [Value.oneCell']) ?_))
              refine bodyPost_ret (results_ct rfl _ _ _ (w.heap.size) _ rfl (load24 (K2.out.setRow (ds := #[.bool false, .slice none 0 0])) rfl)) rfl ?_
              exact ⟨fun h => absurd h HNP.out, fun _ => rfl, HB.out.grown (grown_row wr (w.heap.size) _) HB.out.size (fun j hj => by injection hj with hj; omega)⟩
            · have hb1I : ¬ (s[i].toNat : Int) < 48 := by omega
              rcases Nat.lt_or_ge 57 s[i].toNat with hb2 | hb2
              · have hb2I : (s[i].toNat : Int) > 57 := by omega
                have hb2J : (57 : Int) < (s[i].toNat : Int) := by omega
                have HNP := Lib.hid (show ¬ PV false t from fun h => by
                  have h1 := h.1.2.1 s[i] (by rw [← HTT.out]; exact List.mem_of_getElem? (show (s.data.toList.drop sk)[i - sk]? = some s[i] from by rw [List.getElem?_drop, show sk + (i - sk) = i by have := HSK.out; omega]; exact HBY.out))
                  unfold isd at h1
                  omega)
                replace K2 := Lib.hid (K2.out.below HBr.out)
                replace HB := Lib.hid (HB.out.trans (HBr.out.mono HB.out.size))
                go_wp2_with ((refine wpList_store_row (o := ⟨none, _, _, _, _, _⟩) rfl 24 _ _ rfl (w.heap.size) #[.bool false, .slice none 0 0] rfl rfl 24 _ K2.out (by kernel_rfl) rfl (by simp [Value.oneCell']) ?_))
                refine bodyPost_ret (results_ct rfl _ _ _ (w.heap.size) _ rfl (load24 (K2.out.setRow (ds := #[.bool false, .slice none 0 0])) rfl)) rfl ?_
                exact ⟨fun h => absurd h HNP.out, fun _ => rfl, HB.out.grown (grown_row wr (w.heap.size) _) HB.out.size (fun j hj => by injection hj with hj; omega)⟩
              · have hb2I : ¬ (s[i].toNat : Int) > 57 := by omega
                have hb2J : ¬ (57 : Int) < (s[i].toNat : Int) := by omega
                obtain ⟨d, hd⟩ : ∃ d, s[i].toNat - 48 = d := ⟨_, rfl⟩
                have hdI : (s[i].toNat : Int) - 48 = (d : Int) := by omega
                have hd10 : d < 10 := by omega
                have HNX := Lib.hid (show (∀ b ∈ pre s.data.toList sk (i + 1), isd b) ∧ nv (pre s.data.toList sk (i + 1)) = x * 10 + d from by
                  rw [pre_next HBY.out HSK.out]
                  refine ⟨fun b hb => ?_, ?_⟩
                  · rcases List.mem_append.1 hb with hb | hb
                    · exact HDG.out b hb
                    · obtain rfl : b = s[i] := by simpa using hb
                      exact ⟨by omega, by omega⟩
                  · rw [nv_snoc, HVX.out, hd, Nat.mul_comm])
                have HD10 := Lib.hid hd10
                have HWD := Lib.hid (show IntKind.i64.wrap (IntKind.i64.wrap (s[i].toNat : Int) - 48) = (d : Int) from by rw [IntWalk.i64_in (s[i].toNat : Int) (by omega), IntWalk.i64_in _ (by omega)]; exact hdI)
                clear hd
                go_upto_region 9 with fail
                have hS0 : Below wr.heap.size wr wr.drew := below_drew (Below.refl _ _)
                refine wp_region_mix 10 (fun w' => Below wr.heap.size wr w') (by kernel_rfl) (by decide) ?_
                generalize wr.drew = y0 at hS0 ⊢
                refine wpM_take (i := 0) (oi := ⟨some 39, _, _, _, _, _⟩) (v := ?_) rfl (by decide +kernel) (by decide +kernel) (by decide +kernel) (fun _ _ _ h => h) (Or.inl ⟨by rfl, ?_⟩) hS0 ?_
                case refine_2 =>
                  intro w' hSw
                  go_simp
                  try (with_reducible rfl)
                try simp only [Act.put, List.setIfInBounds_toArray, List.set_cons_zero, List.set_cons_succ]
                refine wpM_take (i := 2) (oi := ⟨some 41, _, _, _, _, _⟩) (v := ?_) rfl (by decide +kernel) (by decide +kernel) (by decide +kernel) (fun _ _ _ h => h) (Or.inl ⟨by rfl, ?_⟩) hS0 ?_
                case refine_2 =>
                  intro w' hSw
                  go_simp
                  try (with_reducible rfl)
                try simp only [Act.put, List.setIfInBounds_toArray, List.set_cons_zero, List.set_cons_succ]
                refine wpM_take (i := 3) (oi := ⟨some 42, _, _, _, _, _⟩) (v := ?_) rfl (by decide +kernel) (by decide +kernel) (by decide +kernel) (fun _ _ _ h => h) (Or.inl ⟨by rfl, ?_⟩) hS0 ?_
                case refine_2 =>
                  intro w' hSw
                  go_simp
                  try (with_reducible rfl)
                try simp only [Act.put, List.setIfInBounds_toArray, List.set_cons_zero, List.set_cons_succ]
                refine wpM_take (i := 4) (oi := ⟨some 43, _, _, _, _, _⟩) (v := ?_) rfl (by decide +kernel) (by decide +kernel) (by decide +kernel) (fun _ _ _ h => h) (Or.inl ⟨by rfl, ?_⟩) hS0 ?_
                case refine_2 =>
                  intro w' hSw
                  go_simp
                  try (with_reducible rfl)
                try simp only [Act.put, List.setIfInBounds_toArray, List.set_cons_zero, List.set_cons_succ]
                refine wpM_take (i := 5) (oi := ⟨some 44, _, _, _, _, _⟩) (v := ?_) rfl (by decide +kernel) (by decide +kernel) (by decide +kernel) (fun _ _ _ h => h) (Or.inl ⟨by rfl, ?_⟩) hS0 ?_
                case refine_2 =>
                  intro w' hSw
                  go_simp
                  try (with_reducible rfl)
                try simp only [Act.put, List.setIfInBounds_toArray, List.set_cons_zero, List.set_cons_succ]
                refine wpM_take (i := 6) (oi := ⟨some 45, _, _, _, _, _⟩) (v := ?_) rfl (by decide +kernel) (by decide +kernel) (by decide +kernel) (fun _ _ _ h => h) (Or.inl ⟨by rfl, ?_⟩) hS0 ?_
                case refine_2 =>
                  intro w' hSw
                  go_simp
                  try (with_reducible rfl)
                try simp only [Act.put, List.setIfInBounds_toArray, List.set_cons_zero, List.set_cons_succ]
                refine wpM_apart (fun i => 39 + i) [1, 7, 8, 9] (ryS x d (2 * i)) ap0 (by decide +kernel) (fun i j h => absurd h ap0_no) (ryS_mono x d (2 * i)) hS0 ?_ ?_
                · refine List.forall_mem_cons.2 ⟨?_, List.forall_mem_cons.2 ⟨?_, List.forall_mem_cons.2 ⟨?_, List.forall_mem_cons.2 ⟨?_, List.forall_mem_nil _⟩⟩⟩⟩
                  · refine ⟨⟨some 40, _, _, _, _, _⟩, rfl, rfl, fun vs W K hS hd hK => ?_⟩
                    simp only [puts, List.foldl_cons, List.foldl_nil, Act.put, List.setIfInBounds_toArray, List.set_cons_zero, List.set_cons_succ, Nat.reduceAdd, Nat.reduceSub, Nat.reduceEqDiff, ↓reduceIte, reduceCtorEq] at hK ⊢
                    go_simp
                    refine (times_hv _ x (2 * i) 10 W (HX.out.below hS) (by omega) (by decide)).mono ?_
                    rintro e W' ⟨v, rfl, hv, hb⟩
                    exact hK _ _ (hS.trans (hb.mono hS.size)) hb (show HV W' v (x * 10) (2 * i + 1) from hv) (fun j h => absurd h ap0_no)
                  · refine ⟨⟨some 46, _, _, _, _, _⟩, rfl, rfl, fun vs W K hS hd hK => ?_⟩
                    simp only [puts, List.foldl_cons, List.foldl_nil, Act.put, List.setIfInBounds_toArray, List.set_cons_zero, List.set_cons_succ, Nat.reduceAdd, Nat.reduceSub, Nat.reduceEqDiff, ↓reduceIte, reduceCtorEq] at hK ⊢
                    go_simp
                    exact hK _ _ (hS.alloc hS.size _) ((Below.refl _ _).alloc (Nat.le_refl _) _) (by
                      show HR0 _ _ d 1
                      rw [HWD.out]
                      exact r0_one W d (by have := HD10.out; omega)) (fun j h => absurd h ap0_no)
                  · refine ⟨⟨some 47, _, _, _, _, _⟩, rfl, rfl, fun vs W K hS hd hK => ?_⟩
                    have d7 : HR0 W (vs 7) d 1 := hd 7 (by decide) (by decide +kernel)
                    simp only [puts, List.foldl_cons, List.foldl_nil, Act.put, List.setIfInBounds_toArray, List.set_cons_zero, List.set_cons_succ, Nat.reduceAdd, Nat.reduceSub, Nat.reduceEqDiff, ↓reduceIte, reduceCtorEq] at hK ⊢
                    go_simp
                    refine (rtrim_r0 (vs 7) d 1 W d7).mono ?_
                    rintro e W ⟨⟨v, rfl, hv⟩, hy⟩
                    replace hy := hy.symm
                    subst hy
                    exact hK _ _ hS (Below.refl _ _) (show HV W v d 1 from hv) (fun j h => absurd h ap0_no)
                  · refine ⟨⟨some 48, _, _, _, _, _⟩, rfl, rfl, fun vs W K hS hd hK => ?_⟩
                    have d1 : HV W (vs 1) (x * 10) (2 * i + 1) := hd 1 (by decide) (by decide +kernel)
                    have d8 : HV W (vs 8) d 1 := hd 8 (by decide) (by decide +kernel)
                    simp only [puts, List.foldl_cons, List.foldl_nil, Act.put, List.setIfInBounds_toArray, List.set_cons_zero, List.set_cons_succ, Nat.reduceAdd, Nat.reduceSub, Nat.reduceEqDiff, ↓reduceIte, reduceCtorEq] at hK ⊢
                    go_simp
                    refine (plus_hv (vs 1) (vs 8) (x * 10) d (2 * i + 1) W d1 (d8.mono (by omega)) (by omega)).mono ?_
                    rintro e W' ⟨v, rfl, hv, hb⟩
                    exact hK _ _ (hS.trans (hb.mono hS.size)) hb (show HV W' v (x * 10 + d) (2 * i + 2) from hv) (fun j h => absurd h ap0_no)
                · intro vs y9 hS hd hap
                  have d9 : HV y9 (vs 9) (x * 10 + d) (2 * i + 2) := hd 9 (by decide)
                  have HN9 := Lib.hid d9
                  have HBn := Lib.hid (HBr.out.trans (hS.mono HBr.out.size))
                  clear d9 hd hap hS
                  simp only [puts, List.foldl_cons, List.foldl_nil, Act.put, List.setIfInBounds_toArray, List.set_cons_zero, List.set_cons_succ, Nat.reduceAdd, Nat.reduceSub, Nat.reduceEqDiff, ↓reduceIte, reduceCtorEq]
                  simp only [List.drop_succ_cons, List.drop_zero]
                  go_wp2
                  go_roundw
                  case rel => exact ⟨i + 1, x * 10 + d, by go_num, by omega, HNX.out.1, HNX.out.2, HN9.out, HBn.out⟩
                  case measure => simp only [RowKit.intOf]; omega
          · have h0 := H0.out
            subst h0
            have HN1 := Lib.hid (show pre s.data.toList sk 1 = [] ∧ x = 0 from by
              refine ⟨?_, ?_⟩
              · unfold pre
                rw [HKK.out]
                exact List.drop_of_length_le (by rw [List.length_take]; exact Nat.min_le_left _ _)
              · rw [← HVX.out]
                simp [pre, nv])
            go_wp2
            go_roundw
            case rel => exact ⟨1, 0, by first | rfl | go_num, by omega, by rw [HN1.out.1]; intro b hb; simp at hb, by rw [HN1.out.1]; rfl, by rw [← HN1.out.2]; exact HX.out.mono (by omega), HBr.out⟩
            case measure => simp only [RowKit.intOf]; omega
        · have hi0 : ((i : Int) == 0) = false := by simp; omega
          have HSK := Lib.hid (show sk ≤ i from by rw [HKK.out]; split <;> omega)
          rcases Nat.lt_or_ge s[i].toNat 48 with hb1 | hb1
          · have hb1I : (s[i].toNat : Int) < 48 := by omega
            have HNP := Lib.hid (show ¬ PV neg t from fun h => by
              have h1 := h.1.2.1 s[i] (by rw [← HTT.out]; exact List.mem_of_getElem? (show (s.data.toList.drop sk)[i - sk]? = some s[i] from by rw [List.getElem?_drop, show sk + (i - sk) = i by have := HSK.out; omega]; exact HBY.out))
              unfold isd at h1
              omega)
            replace K2 := Lib.hid (K2.out.below HBr.out)
            replace HB := Lib.hid (HB.out.trans (HBr.out.mono HB.out.size))
            go_wp2_with ((refine wpList_store_row (o := ⟨none, _, _, _, _, _⟩) rfl 24 _ _ rfl (w.heap.size) #[.bool false, .slice none 0 0] rfl rfl 24 _ K2.out (by kernel_rfl) rfl (by simp [Value.oneCell']) ?_))
            refine bodyPost_ret (results_ct rfl _ _ _ (w.heap.size) _ rfl (load24 (K2.out.setRow (ds := #[.bool false, .slice none 0 0])) rfl)) rfl ?_
            exact ⟨fun h => absurd h HNP.out, fun _ => rfl, HB.out.grown (grown_row wr (w.heap.size) _) HB.out.size (fun j hj => by injection hj with hj; omega)⟩
          · have hb1I : ¬ (s[i].toNat : Int) < 48 := by omega
            rcases Nat.lt_or_ge 57 s[i].toNat with hb2 | hb2
            · have hb2I : (s[i].toNat : Int) > 57 := by omega
              have hb2J : (57 : Int) < (s[i].toNat : Int) := by omega
              have HNP := Lib.hid (show ¬ PV neg t from fun h => by
                have h1 := h.1.2.1 s[i] (by rw [← HTT.out]; exact List.mem_of_getElem? (show (s.data.toList.drop sk)[i - sk]? = some s[i] from by rw [List.getElem?_drop, show sk + (i - sk) = i by have := HSK.out; omega]; exact HBY.out))
                unfold isd at h1
                omega)
              replace K2 := Lib.hid (K2.out.below HBr.out)
              replace HB := Lib.hid (HB.out.trans (HBr.out.mono HB.out.size))
              go_wp2_with ((refine wpList_store_row (o := ⟨none, _, _, _, _, _⟩) rfl 24 _ _ rfl (w.heap.size) #[.bool false, .slice none 0 0] rfl rfl 24 _ K2.out (by kernel_rfl) rfl (by simp [Value.oneCell']) ?_))
              refine bodyPost_ret (results_ct rfl _ _ _ (w.heap.size) _ rfl (load24 (K2.out.setRow (ds := #[.bool false, .slice none 0 0])) rfl)) rfl ?_
              exact ⟨fun h => absurd h HNP.out, fun _ => rfl, HB.out.grown (grown_row wr (w.heap.size) _) HB.out.size (fun j hj => by injection hj with hj; omega)⟩
            · have hb2I : ¬ (s[i].toNat : Int) > 57 := by omega
              have hb2J : ¬ (57 : Int) < (s[i].toNat : Int) := by omega
              obtain ⟨d, hd⟩ : ∃ d, s[i].toNat - 48 = d := ⟨_, rfl⟩
              have hdI : (s[i].toNat : Int) - 48 = (d : Int) := by omega
              have hd10 : d < 10 := by omega
              have HNX := Lib.hid (show (∀ b ∈ pre s.data.toList sk (i + 1), isd b) ∧ nv (pre s.data.toList sk (i + 1)) = x * 10 + d from by
                rw [pre_next HBY.out HSK.out]
                refine ⟨fun b hb => ?_, ?_⟩
                · rcases List.mem_append.1 hb with hb | hb
                  · exact HDG.out b hb
                  · obtain rfl : b = s[i] := by simpa using hb
                    exact ⟨by omega, by omega⟩
                · rw [nv_snoc, HVX.out, hd, Nat.mul_comm])
              have HD10 := Lib.hid hd10
              have HWD := Lib.hid (show IntKind.i64.wrap (IntKind.i64.wrap (s[i].toNat : Int) - 48) = (d : Int) from by rw [IntWalk.i64_in (s[i].toNat : Int) (by omega), IntWalk.i64_in _ (by omega)]; exact hdI)
              clear hd
              go_upto_region 9 with fail
              have hS0 : Below wr.heap.size wr wr.drew := below_drew (Below.refl _ _)
              refine wp_region_mix 10 (fun w' => Below wr.heap.size wr w') (by kernel_rfl) (by decide) ?_
              generalize wr.drew = y0 at hS0 ⊢
              refine wpM_take (i := 0) (oi := ⟨some 39, _, _, _, _, _⟩) (v := ?_) rfl (by decide +kernel) (by decide +kernel) (by decide +kernel) (fun _ _ _ h => h) (Or.inl ⟨by rfl, ?_⟩) hS0 ?_
              case refine_2 =>
                intro w' hSw
                go_simp
                try (with_reducible rfl)
              try simp only [Act.put, List.setIfInBounds_toArray, List.set_cons_zero, List.set_cons_succ]
              refine wpM_take (i := 2) (oi := ⟨some 41, _, _, _, _, _⟩) (v := ?_) rfl (by decide +kernel) (by decide +kernel) (by decide +kernel) (fun _ _ _ h => h) (Or.inl ⟨by rfl, ?_⟩) hS0 ?_
              case refine_2 =>
                intro w' hSw
                go_simp
                try (with_reducible rfl)
              try simp only [Act.put, List.setIfInBounds_toArray, List.set_cons_zero, List.set_cons_succ]
              refine wpM_take (i := 3) (oi := ⟨some 42, _, _, _, _, _⟩) (v := ?_) rfl (by decide +kernel) (by decide +kernel) (by decide +kernel) (fun _ _ _ h => h) (Or.inl ⟨by rfl, ?_⟩) hS0 ?_
              case refine_2 =>
                intro w' hSw
                go_simp
                try (with_reducible rfl)
              try simp only [Act.put, List.setIfInBounds_toArray, List.set_cons_zero, List.set_cons_succ]
              refine wpM_take (i := 4) (oi := ⟨some 43, _, _, _, _, _⟩) (v := ?_) rfl (by decide +kernel) (by decide +kernel) (by decide +kernel) (fun _ _ _ h => h) (Or.inl ⟨by rfl, ?_⟩) hS0 ?_
              case refine_2 =>
                intro w' hSw
                go_simp
                try (with_reducible rfl)
              try simp only [Act.put, List.setIfInBounds_toArray, List.set_cons_zero, List.set_cons_succ]
              refine wpM_take (i := 5) (oi := ⟨some 44, _, _, _, _, _⟩) (v := ?_) rfl (by decide +kernel) (by decide +kernel) (by decide +kernel) (fun _ _ _ h => h) (Or.inl ⟨by rfl, ?_⟩) hS0 ?_
              case refine_2 =>
                intro w' hSw
                go_simp
                try (with_reducible rfl)
              try simp only [Act.put, List.setIfInBounds_toArray, List.set_cons_zero, List.set_cons_succ]
              refine wpM_take (i := 6) (oi := ⟨some 45, _, _, _, _, _⟩) (v := ?_) rfl (by decide +kernel) (by decide +kernel) (by decide +kernel) (fun _ _ _ h => h) (Or.inl ⟨by rfl, ?_⟩) hS0 ?_
              case refine_2 =>
                intro w' hSw
                go_simp
                try (with_reducible rfl)
              try simp only [Act.put, List.setIfInBounds_toArray, List.set_cons_zero, List.set_cons_succ]
              refine wpM_apart (fun i => 39 + i) [1, 7, 8, 9] (ryS x d (2 * i)) ap0 (by decide +kernel) (fun i j h => absurd h ap0_no) (ryS_mono x d (2 * i)) hS0 ?_ ?_
              · refine List.forall_mem_cons.2 ⟨?_, List.forall_mem_cons.2 ⟨?_, List.forall_mem_cons.2 ⟨?_, List.forall_mem_cons.2 ⟨?_, List.forall_mem_nil _⟩⟩⟩⟩
                · refine ⟨⟨some 40, _, _, _, _, _⟩, rfl, rfl, fun vs W K hS hd hK => ?_⟩
                  simp only [puts, List.foldl_cons, List.foldl_nil, Act.put, List.setIfInBounds_toArray, List.set_cons_zero, List.set_cons_succ, Nat.reduceAdd, Nat.reduceSub, Nat.reduceEqDiff, ↓reduceIte, reduceCtorEq] at hK ⊢
                  go_simp
                  refine (times_hv _ x (2 * i) 10 W (HX.out.below hS) (by omega) (by decide)).mono ?_
                  rintro e W' ⟨v, rfl, hv, hb⟩
                  exact hK _ _ (hS.trans (hb.mono hS.size)) hb (show HV W' v (x * 10) (2 * i + 1) from hv) (fun j h => absurd h ap0_no)
                · refine ⟨⟨some 46, _, _, _, _, _⟩, rfl, rfl, fun vs W K hS hd hK => ?_⟩
                  simp only [puts, List.foldl_cons, List.foldl_nil, Act.put, List.setIfInBounds_toArray, List.set_cons_zero, List.set_cons_succ, Nat.reduceAdd, Nat.reduceSub, Nat.reduceEqDiff, ↓reduceIte, reduceCtorEq] at hK ⊢
                  go_simp
                  exact hK _ _ (hS.alloc hS.size _) ((Below.refl _ _).alloc (Nat.le_refl _) _) (by
                    show HR0 _ _ d 1
                    rw [HWD.out]
                    exact r0_one W d (by have := HD10.out; omega)) (fun j h => absurd h ap0_no)
                · refine ⟨⟨some 47, _, _, _, _, _⟩, rfl, rfl, fun vs W K hS hd hK => ?_⟩
                  have d7 : HR0 W (vs 7) d 1 := hd 7 (by decide) (by decide +kernel)
                  simp only [puts, List.foldl_cons, List.foldl_nil, Act.put, List.setIfInBounds_toArray, List.set_cons_zero, List.set_cons_succ, Nat.reduceAdd, Nat.reduceSub, Nat.reduceEqDiff, ↓reduceIte, reduceCtorEq] at hK ⊢
                  go_simp
                  refine (rtrim_r0 (vs 7) d 1 W d7).mono ?_
                  rintro e W ⟨⟨v, rfl, hv⟩, hy⟩
                  replace hy := hy.symm
                  subst hy
                  exact hK _ _ hS (Below.refl _ _) (show HV W v d 1 from hv) (fun j h => absurd h ap0_no)
                · refine ⟨⟨some 48, _, _, _, _, _⟩, rfl, rfl, fun vs W K hS hd hK => ?_⟩
                  have d1 : HV W (vs 1) (x * 10) (2 * i + 1) := hd 1 (by decide) (by decide +kernel)
                  have d8 : HV W (vs 8) d 1 := hd 8 (by decide) (by decide +kernel)
                  simp only [puts, List.foldl_cons, List.foldl_nil, Act.put, List.setIfInBounds_toArray, List.set_cons_zero, List.set_cons_succ, Nat.reduceAdd, Nat.reduceSub, Nat.reduceEqDiff, ↓reduceIte, reduceCtorEq] at hK ⊢
                  go_simp
                  refine (plus_hv (vs 1) (vs 8) (x * 10) d (2 * i + 1) W d1 (d8.mono (by omega)) (by omega)).mono ?_
                  rintro e W' ⟨v, rfl, hv, hb⟩
                  exact hK _ _ (hS.trans (hb.mono hS.size)) hb (show HV W' v (x * 10 + d) (2 * i + 2) from hv) (fun j h => absurd h ap0_no)
              · intro vs y9 hS hd hap
                have d9 : HV y9 (vs 9) (x * 10 + d) (2 * i + 2) := hd 9 (by decide)
                have HN9 := Lib.hid d9
                have HBn := Lib.hid (HBr.out.trans (hS.mono HBr.out.size))
                clear d9 hd hap hS
                simp only [puts, List.foldl_cons, List.foldl_nil, Act.put, List.setIfInBounds_toArray, List.set_cons_zero, List.set_cons_succ, Nat.reduceAdd, Nat.reduceSub, Nat.reduceEqDiff, ↓reduceIte, reduceCtorEq]
                simp only [List.drop_succ_cons, List.drop_zero]
                go_wp2
                go_roundw
                case rel => exact ⟨i + 1, x * 10 + d, by go_num, by omega, HNX.out.1, HNX.out.2, HN9.out, HBn.out⟩
                case measure => simp only [RowKit.intOf]; omega
      · obtain rfl : i = s.size := by omega
        have hlt2 : ¬ ((s.size : Int) < (s.size : Int)) := by omega
        have hpt : pre s.data.toList sk s.size = t := by
          unfold pre
          rw [show s.size = s.data.toList.length by simp, List.take_length]
          exact HTT.out
        have HDT := Lib.hid (show ∀ b ∈ t, isd b from by rw [← hpt]; exact HDG.out)
        have HPI := Lib.hid (parse_iff HSS.out HDT.out)
        rw [hpt] at HVX
        obtain rfl : nv t = x := HVX.out
        have CB := Lib.hid (big_hv neg _ (nv t) (2 * s.size) wr HX.out (by omega))
        obtain ⟨z, hz⟩ : ∃ z, sgn neg (nv t) = z := ⟨_, rfl⟩
        rw [hz] at CB HPI ⊢
        replace K2 := Lib.hid (K2.out.below HBr.out)
        replace HB := Lib.hid (HB.out.trans (HBr.out.mono HB.out.size))
        have HZE := Lib.hid hz
        clear hlt hpt hz
        go_wp2_with fail
        refine CB.out.mono ?_
        rintro e w6 ⟨v, rfl, hv, hb⟩
        have HV6 := Lib.hid (hv.mono HB.out.size (Nat.le_refl _))
        replace K2 := Lib.hid (K2.out.below hb)
        replace HB := Lib.hid (HB.out.trans (hb.mono HB.out.size))
        clear hv hb CB
        obtain ⟨Aq, nq, cq, Dq, hevq, hoq, hsq, hnq, hvq, hNq⟩ := HV6.out
        obtain ⟨sbq, hsbq⟩ : ∃ b, b = decide (z < 0) := ⟨_, rfl⟩
        rw [← hsbq] at hevq
        subst hevq
        have HSBq := Lib.hid hsbq
        clear hsbq
        obtain ⟨W7, hW7⟩ : ∃ W, W = w6.alloc (.cells #[.bool sbq, .slice Aq nq cq] 24) := ⟨_, rfl⟩
        obtain ⟨gq, hgq⟩ : ∃ g, w6.heap.size = g := ⟨_, rfl⟩
        have hal := (Below.refl w6.heap.size w6).alloc (Nat.le_refl _) (.cells #[.bool sbq, .slice Aq nq cq] 24)
        rw [← hW7] at hal
        have KQ := Lib.hid (show Blk W7 gq 24 #[.bool sbq, .slice Aq nq cq] by rw [hW7, ← hgq]; exact Blk.new _ _ _)
        have HNQ := Lib.hid (show NB W7 w.heap.size (.agg #[.bool sbq, .slice Aq nq cq]) z (2 * s.size + 1) from NB.below ⟨Aq, nq, cq, Dq, by rw [HSBq.out], hoq, hsq, hnq, hvq, by omega⟩ hal)
        have HGQ := Lib.hid (show w.heap.size < gq by rw [← hgq]; exact K2.out.lt)
        replace K2 := Lib.hid (K2.out.below hal)
        replace HB := Lib.hid (HB.out.trans (hal.mono HB.out.size))
        clear hal hoq hsq hnq hvq
        have KQ_0 : W7.cell? ⟨gq, 0, none⟩ = some (.bool sbq) := KQ.out.cell 0
        have KQ_1 : W7.cell? ⟨gq, 1, none⟩ = some (.slice Aq nq cq) := KQ.out.cell 1
        have CT := Lib.hid (RText_any _ z (2 * s.size + 1) W7 HNQ.out.bg (by omega))
        go_upto_region 11 with fail
        rw [← hW7]
        clear hW7 hgq
        go_wp2_with fail
        refine CT.out.mono ?_
        rintro e w8 ⟨rfl, hb⟩
        replace K2 := Lib.hid (K2.out.below hb)
        replace KQ := Lib.hid (KQ.out.below hb)
        replace HNQ := Lib.hid (HNQ.out.below hb)
        replace HB := Lib.hid (HB.out.trans (hb.mono HB.out.size))
        clear hb CT KQ_0 KQ_1
        obtain ⟨tx, htx⟩ : ∃ x : ByteArray, ⟨(fmtZ z).toArray⟩ = x := ⟨_, rfl⟩
        rw [htx]
        have HTE := Lib.hid (show tx = s ↔ PV neg t from by
          rw [← HPI.out, ← htx]
          constructor
          · intro e
            have := congrArg (fun b : ByteArray => b.data.toList) e
            simpa using this
          · intro e
            apply ByteArray.ext
            rw [e, Array.toArray_toList])
        clear htx
        have KQ_0 : w8.cell? ⟨gq, 0, none⟩ = some (.bool sbq) := KQ.out.cell 0
        have KQ_1 : w8.cell? ⟨gq, 1, none⟩ = some (.slice Aq nq cq) := KQ.out.cell 1
        by_cases he : tx = s
        · have HP := Lib.hid (HTE.out.1 he)
          subst he
          go_wp2_with ((refine wpList_store_row (o := ⟨none, _, _, _, _, _⟩) rfl 24 _ _ rfl (w.heap.size) #[.bool sbq, .slice Aq nq cq] rfl rfl 24 _ K2.out (by kernel_rfl) rfl (by simp [Value.oneCell']) ?_))
          refine bodyPost_ret (results_ct rfl _ _ _ (w.heap.size) _ rfl (load24 (K2.out.setRow (ds := #[.bool sbq, .slice Aq nq cq])) rfl)) rfl ?_
          exact ⟨fun _ => ⟨_, rfl, by rw [HZE.out]; exact NB.row HNQ.out K2.out _⟩, fun h => absurd HP.out h, HB.out.grown (grown_row w8 (w.heap.size) _) HB.out.size (fun j hj => by injection hj with hj; omega)⟩
        · have HP := Lib.hid (show ¬ PV neg t from fun h => he (HTE.out.2 h))
          have hl : tx.toList ≠ s.toList := fun e => he (by
            rw [ByteArray.toList_eq, ByteArray.toList_eq] at e
            exact ByteArray.ext (Array.toList_inj.1 e))
          have he1 : (tx.toList == s.toList) = false := by simpa using hl
          clear he hl
          go_wp2_with ((refine wpList_store_row (o := ⟨none, _, _, _, _, _⟩) rfl 24 _ _ rfl (w.heap.size) #[.bool false, .slice none 0 0] rfl rfl 24 _ K2.out (by kernel_rfl) rfl (by simp [Value.oneCell']) ?_))
          refine bodyPost_ret (results_ct rfl _ _ _ (w.heap.size) _ rfl (load24 (K2.out.setRow (ds := #[.bool false, .slice none 0 0])) rfl)) rfl ?_
          exact ⟨fun h => absurd h HP.out, fun _ => rfl, HB.out.grown (grown_row w8 (w.heap.size) _) HB.out.size (fun j hj => by injection hj with hj; omega)⟩
end Go.Proofs.YtndkcimdbidgaaaDoor
