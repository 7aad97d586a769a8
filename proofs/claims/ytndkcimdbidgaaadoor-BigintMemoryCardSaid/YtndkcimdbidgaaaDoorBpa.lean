/- The integer of a decimal text. -/
import Derived.Test.YtndkcimdbidgaaaDoorBnu
import Derived.Test.YtndkcimdbidgaaaDoorBnm
import Derived.Test.YtndkcimdbidgaaaDoorBof
import Derived.Test.YtndkcimdbidgaaaDoorShelf
namespace Go.Proofs.YtndkcimdbidgaaaDoor
open Go.ChangeShapes Go.WideShapes Go.ChangeAt Go.RowKit Go.ChangeMaps

theorem nv_acc : ∀ (l : List UInt8) (a : Nat), l.foldl (fun a b => 10 * a + (b.toNat - 48)) a = a * 10 ^ l.length + l.foldl (fun a b => 10 * a + (b.toNat - 48)) 0
  | [], a => by simp
  | b :: l, a => by
    simp only [List.foldl_cons, List.length_cons, Nat.pow_succ]
    rw [nv_acc l (10 * a + (b.toNat - 48)), nv_acc l (10 * 0 + (b.toNat - 48))]
    grind
theorem nv_app (a b : List UInt8) : nv (a ++ b) = nv a * 10 ^ b.length + nv b := by
  unfold nv
  rw [List.foldl_append, nv_acc b]
theorem results_ct {fn : Func} {p q : Tmp} {ty : TypeId} (h : fn.results = #[.cell p ty, .tmp q]) (tmps : Array Value) (P : Program) (w : World) (g : Nat) (X : Value)
    (hp : tmps.getD p undef = .pointer (some ⟨g, 0, none⟩)) (h1 : (loadVar ty ⟨g, 0, none⟩).run P w = .ok X w) : (results fn tmps).run P w = .ok (.tuple #[X, tmps.getD q undef]) w := by
  have hp' : tmps[p]?.getD undef = .pointer (some ⟨g, 0, none⟩) := by simpa using hp
  simp [results, h, hp', asAddr, h1, Result.andThen]
def szOf : Value → Nat
  | .string s => s.size
  | _ => 0
theorem own_take {w : World} {b e n k : Nat} {A : Option Addr} {c : Nat} {xs : List Value} (h : w.ownsRow b e 1 (.slice A n c) n xs) (hk : k ≤ n) : w.ownsRow b e 1 (.slice A k c) k (xs.take k) := by
  refine ⟨by rw [List.length_take, h.1]; omega, ?_⟩
  rcases h.2 with ⟨h1, h2⟩ | ⟨g, cap, cur, h1, hg, hh, hn, hc, hsz, ht⟩
  · injection h1 with hA hn hc
    subst hA
    subst hc
    exact .inl ⟨by rw [show k = 0 by omega], by omega⟩
  · injection h1 with hA hn2 hc2
    subst hA
    subst hc2
    refine .inr ⟨g, c, cur, rfl, hg, hh, by omega, hc, hsz, ?_⟩
    rw [← ht, List.take_take]
    congr 1
    omega
set_option maxRecDepth 100000 in
set_option maxHeartbeats 4000000 in
theorem Parse_ok (s t : ByteArray) (neg : Bool) (w : World) (ht : Lib.trimPrefix s.data.toList [45] = t.data.toList) (hn : Lib.hasPrefix s.data.toList [45] = neg) (hd : decT t.data.toList) (hz : ¬ (neg = true ∧ t.data.toList = [48])) (_hs : s.size ≤ 1000) (hts : t.size ≤ 1000) :
    Calls Tryd.prog 40 #[.string s] w fun e w' => ∃ v, e = .returned (.tuple #[v, .int .i64 0]) ∧ NB w' w.heap.size v (sgn neg (nv t.data.toList)) (t.size + 1) ∧ Below w.heap.size w w' := by
  obtain ⟨z, hzz⟩ : ∃ z, sgn neg (nv t.data.toList) = z := ⟨_, rfl⟩
  rw [hzz]
  have HZZ := Lib.hid hzz
  clear hzz
  obtain ⟨W0, hW0⟩ : ∃ W, W = w.alloc (.cells #[.bool false, .slice none 0 0] 24) := ⟨_, rfl⟩
  have HB := Lib.hid (show Below w.heap.size w W0 by rw [hW0]; exact (Below.refl _ w).alloc (Nat.le_refl _) _)
  have HK := Lib.hid (show Blk W0 w.heap.size 24 #[.bool false, .slice none 0 0] by rw [hW0]; exact Blk.new _ _ _)
  have CC := Lib.hid (Tryd.strings_CutPrefix s ⟨#[45]⟩ W0)
  have CD := Lib.hid (decimal_any t W0 (by omega))
  have HD := Lib.hid hd
  rw [show (⟨#[45]⟩ : ByteArray).data.toList = [45] from rfl, ht, hn] at CC
  rw [show (⟨t.data.toList.toArray⟩ : ByteArray) = t from by cases t; simp] at CC
  have HL := Lib.hid (show t.data.toList.length = t.size by simp)
  have HZ := Lib.hid hz
  clear ht hn hd hz
  go_enter Tryd.func40, Tryd.ntmps40
  go_wp2_with fail
  rw [← hW0]
  clear hW0
  refine CC.out.mono ?_
  rintro e w1 ⟨rfl, hy⟩
  replace hy := hy.symm
  subst hy
  go_wp2_with fail
  refine CD.out.mono ?_
  rintro e w1 ⟨b, rfl, hb, hy⟩
  replace hy := hy.symm
  subst hy
  obtain rfl : b = true := hb.2 HD.out
  clear hb CC CD
  have h48 : neg = false ∨ (neg = true ∧ ¬ t.data.toList = [48]) := by
    cases neg with
    | false => exact .inl rfl
    | true => exact .inr ⟨rfl, fun e => HZ.out ⟨rfl, e⟩⟩
  have h48' : neg = false ∨ (neg = true ∧ (t.toList == (⟨#[48]⟩ : ByteArray).toList) = false ∧ ¬ t.toList = (⟨#[48]⟩ : ByteArray).toList ∧ (t.toList == [48]) = false ∧ ¬ t.toList = [48]) := by
    rcases h48 with h | ⟨h, h2⟩
    · exact .inl h
    · rw [ByteArray.toList_eq t]
      exact .inr ⟨h, by rw [ByteArray.toList_eq]; simpa using h2, by rw [ByteArray.toList_eq]; exact h2, by simpa using h2, h2⟩
  clear h48 HZ
  rcases h48' with hneg | ⟨hneg, q1, q2, q3, q4⟩
  · subst hneg
    go_wp2_with fail
    go_loopw [4, 6] (fun s4 s6 wr => ∃ (u : ByteArray) (j k : Nat) (D : List Nat), s4 = .string u ∧ j ≤ t.size ∧ u.data.toList = t.data.toList.drop j ∧ ((j = 0 ∧ D = []) ∨ (t.size - j) % 9 = 0) ∧ k ≤ j ∧ wr.ownsRow W0.heap.size 47 1 s6 k (dcl D) ∧ dok 4294967296 D ∧ dv 4294967296 D = nv (t.data.toList.take j) ∧ Below W0.heap.size W0 wr) (fun s4 _ _ => szOf s4)
    case atStart => exact ⟨t, 0, 0, [], rfl, Nat.zero_le _, rfl, .inl ⟨rfl, rfl⟩, Nat.le_refl _, World.ownsRow_nil _ _ _ _, dok_nil _, rfl, Below.refl _ _⟩
    case round =>
      obtain ⟨u, j, k, D, rfl, hj, hu, hm9, hkj, ho, hdk, hdv, hb⟩ := hrel
      have HU := Lib.hid hu
      have HO := Lib.hid ho
      have HDK := Lib.hid hdk
      have HDV := Lib.hid hdv
      have HBW := Lib.hid hb
      have H9 := Lib.hid hm9
      have HUS := Lib.hid (show u.size = t.size - j from by
        have := congrArg List.length hu
        rw [List.length_drop, HL.out] at this
        simpa using this)
      clear hu ho hdk hdv hb hm9
      by_cases h0 : u.size = 0
      · have hp : ¬ (0 : Int) < (u.size : Int) := by omega
        have HF := Lib.hid (show dv 4294967296 D = nv t.data.toList from by rw [HDV.out, List.take_of_length_le (by rw [HL.out]; have := HUS.out; omega)])
        obtain ⟨A, c, rfl, hown, hsl⟩ := own_row HO.out HDK.out
        have CS := Lib.hid (signed_any false A k c D _ wr hown hsl)
        rw [HF.out] at CS
        have HK2 := Lib.hid (HK.out.below HBW.out)
        have HB2 := Lib.hid (HB.out.trans (HBW.out.mono HB.out.size))
        clear hown hsl h0
        rw [HZZ.out] at CS
        go_wp2_with fail
        refine CS.out.mono ?_
        rintro e w2 ⟨v, rfl, hv, hb⟩
        have HV := Lib.hid (hv.mono HB.out.size (show k ≤ t.size + 1 by omega))
        have HB3 := Lib.hid (HB2.out.trans (hb.mono HB2.out.size))
        have HK3 := Lib.hid (HK2.out.below hb)
        clear hb hv CS
        obtain ⟨Ar, nr, cr, Dr, hevr, hor, hsr, hnr, hvr, hNr⟩ := HV.out
        obtain ⟨sbr, hsbr⟩ : ∃ b, b = decide (z < 0) := ⟨_, rfl⟩
        rw [← hsbr] at hevr
        subst hevr
        have HSBr := Lib.hid hsbr
        clear hsbr
        go_wp2_with ((refine wpList_store_row (o := ⟨none, _, _, _, _, _⟩) rfl 24 _ _ rfl (w.heap.size) #[.bool sbr, .slice Ar nr cr] rfl rfl 24 _ HK3.out (by kernel_rfl) rfl (by simp [Value.oneCell']) ?_))
        refine bodyPost_ret (results_ct rfl _ _ _ (w.heap.size) _ rfl (load24 (HK3.out.setRow (ds := #[.bool sbr, .slice Ar nr cr])) rfl)) rfl ?_
        exact ⟨_, rfl, NB.row ⟨Ar, nr, cr, Dr, by rw [HSBr.out], hor, hsr, hnr, hvr, hNr⟩ HK3.out _, HB3.out.grown (grown_row w2 (w.heap.size) _) HB3.out.size (fun j hj => by first | (injection hj with hj; omega) | omega | (cases hj; exact Nat.le_refl _))⟩
      · have hp : (0 : Int) < (u.size : Int) := by omega
        rcases Nat.eq_zero_or_pos (u.size % 9) with hr | hr
        · have hri : (u.size : Int) % 9 = 0 := by omega
          have hrt : (u.size : Int).tmod 9 = 0 := by rw [Int.tmod_eq_emod_of_nonneg (by omega)]; exact hri
          have hnle : 9 ≤ u.size := by omega
          have hnleI : (9 : Int) ≤ (u.size : Int) := by omega
          have HR9 := Lib.hid (show (t.size - (j + 9)) % 9 = 0 from by have := HUS.out; omega)
          have HN9 := Lib.hid (show (j = 0 ∧ D = []) ∨ 9 = 9 from .inr rfl)
          have hul : (u.extract 0 9).data.toList = u.data.toList.take 9 := by simp
          have hud : (u.extract 9 u.size).data.toList = u.data.toList.drop 9 := by simp [List.take_of_length_le]
          have huz : (u.extract 0 9).size = 9 := by simp; omega
          have hudz : (u.extract 9 u.size).size = u.size - 9 := by simp
          have CN := Lib.hid (number_any (u.extract 0 9) wr (by omega) (fun b hb => HD.out.2.1 b (by
            rw [hul, HU.out] at hb
            exact List.mem_of_mem_drop (List.mem_of_mem_take hb))))
          rw [hul] at CN
          obtain ⟨q, hq⟩ : ∃ q, nv (u.data.toList.take 9) = q := ⟨_, rfl⟩
          rw [hq] at CN
          have hqB : q < 4294967296 := by
            have h1 := nv_lt 9 (u.data.toList.take 9) (by rw [← hul]; simpa using huz) (fun b hb => HD.out.2.1 b (by
              rw [HU.out] at hb
              exact List.mem_of_mem_drop (List.mem_of_mem_take hb)))
            rw [hq] at h1
            have h2 : 10 ^ 9 ≤ 10 ^ 9 := Nat.pow_le_pow_right (by decide) (by omega)
            omega
          have HQ := Lib.hid (show dv 4294967296 D * 1000000000 + q = nv (t.data.toList.take (j + 9)) from by
            rw [List.take_add, nv_app, HDV.out, ← hq, HU.out]
            congr 1
            rcases HN9.out with ⟨h1, h2⟩ | h
            · subst h1
              simp [nv]
            · rw [List.length_take, List.length_drop, HL.out, show min 9 (t.size - j) = 9 from by have := HUS.out; omega])
          have HUD := Lib.hid (show (u.extract 9 u.size).data.toList = t.data.toList.drop (j + 9) from by rw [hud, HU.out, List.drop_drop])
          have HUZ := Lib.hid hudz
          have CT := Lib.hid (timesPlus_any u6 k D W0.heap.size 1000000000 q wr HO.out HDK.out (by omega) (by decide) hqB HBW.out.size)
          clear hul hud huz hudz hq hqB
          go_wp2_with fail
          refine CN.out.mono ?_
          rintro e w1 ⟨rfl, hy⟩
          replace hy := hy.symm
          subst hy
          go_wp2_with fail
          refine CT.out.mono ?_
          rintro e w2 ⟨v', R, rfl, ho2, hd2, hv2, hl2, hb2⟩
          obtain ⟨A, c, rfl, hown, hsl⟩ := own_row ho2 hd2
          have CTR := Lib.hid (trim_any A R.length c R w2 hown.dg hsl)
          have HB2 := Lib.hid (show Below W0.heap.size W0 w2 from HBW.out.trans hb2)
          have HO2 := Lib.hid ho2
          have HD2 := Lib.hid hd2
          have HV2 := Lib.hid (hv2.trans HQ.out)
          have HL2 := Lib.hid hl2
          clear ho2 hd2 hv2 hl2 hb2 hown hsl CN CT
          go_wp2_with fail
          refine CTR.out.mono ?_
          rintro e w3 ⟨k2, rfl, htr, hy⟩
          replace hy := hy.symm
          subst hy
          have HT := Lib.hid htr
          clear htr CTR
          go_wp2
          go_roundw
          case rel => exact ⟨u.extract 9 u.size, j + 9, k2, R.take k2, by go_num, by have := HUS.out; omega, HUD.out, .inr HR9.out, by have h1 := HT.out.1; have h2 := HL2.out; omega, by rw [show dcl (R.take k2) = (dcl R).take k2 from by simp [dcl, List.map_take]]; exact own_take HO2.out HT.out.1, dok_take HD2.out _, by rw [HT.out.dv]; exact HV2.out, HB2.out⟩
          case measure => simp only [szOf]; rw [HUZ.out]; omega
        · obtain ⟨r, hrr⟩ : ∃ r, u.size % 9 = r := ⟨_, rfl⟩
          have hr9 : r < 9 := by omega
          have hr0 : 0 < r := by omega
          have hri : (u.size : Int) % 9 = (r : Int) := by omega
          have hrt : (u.size : Int).tmod 9 = (r : Int) := by rw [Int.tmod_eq_emod_of_nonneg (by omega)]; exact hri
          have hrz : ((r : Int) == 0) = false := by simp; omega
          have hnle : r ≤ u.size := by omega
          have hnleI : (r : Int) ≤ (u.size : Int) := by omega
          have HR9 := Lib.hid (show (t.size - (j + r)) % 9 = 0 from by have := HUS.out; omega)
          have HN9 := Lib.hid (show (j = 0 ∧ D = []) ∨ r = 9 from by
            rcases H9.out with h | h
            · exact .inl h
            · have := HUS.out; omega)
          clear hrr hr
          have hul : (u.extract 0 r).data.toList = u.data.toList.take r := by simp
          have hud : (u.extract r u.size).data.toList = u.data.toList.drop r := by simp [List.take_of_length_le]
          have huz : (u.extract 0 r).size = r := by simp; omega
          have hudz : (u.extract r u.size).size = u.size - r := by simp
          have CN := Lib.hid (number_any (u.extract 0 r) wr (by omega) (fun b hb => HD.out.2.1 b (by
            rw [hul, HU.out] at hb
            exact List.mem_of_mem_drop (List.mem_of_mem_take hb))))
          rw [hul] at CN
          obtain ⟨q, hq⟩ : ∃ q, nv (u.data.toList.take r) = q := ⟨_, rfl⟩
          rw [hq] at CN
          have hqB : q < 4294967296 := by
            have h1 := nv_lt r (u.data.toList.take r) (by rw [← hul]; simpa using huz) (fun b hb => HD.out.2.1 b (by
              rw [HU.out] at hb
              exact List.mem_of_mem_drop (List.mem_of_mem_take hb)))
            rw [hq] at h1
            have h2 : 10 ^ r ≤ 10 ^ 9 := Nat.pow_le_pow_right (by decide) (by omega)
            omega
          have HQ := Lib.hid (show dv 4294967296 D * 1000000000 + q = nv (t.data.toList.take (j + r)) from by
            rw [List.take_add, nv_app, HDV.out, ← hq, HU.out]
            congr 1
            rcases HN9.out with ⟨h1, h2⟩ | h
            · subst h1
              simp [nv]
            · rw [List.length_take, List.length_drop, HL.out, show min r (t.size - j) = 9 from by have := HUS.out; omega])
          have HUD := Lib.hid (show (u.extract r u.size).data.toList = t.data.toList.drop (j + r) from by rw [hud, HU.out, List.drop_drop])
          have HUZ := Lib.hid hudz
          have CT := Lib.hid (timesPlus_any u6 k D W0.heap.size 1000000000 q wr HO.out HDK.out (by omega) (by decide) hqB HBW.out.size)
          clear hul hud huz hudz hq hqB
          go_wp2_with fail
          refine CN.out.mono ?_
          rintro e w1 ⟨rfl, hy⟩
          replace hy := hy.symm
          subst hy
          go_wp2_with fail
          refine CT.out.mono ?_
          rintro e w2 ⟨v', R, rfl, ho2, hd2, hv2, hl2, hb2⟩
          obtain ⟨A, c, rfl, hown, hsl⟩ := own_row ho2 hd2
          have CTR := Lib.hid (trim_any A R.length c R w2 hown.dg hsl)
          have HB2 := Lib.hid (show Below W0.heap.size W0 w2 from HBW.out.trans hb2)
          have HO2 := Lib.hid ho2
          have HD2 := Lib.hid hd2
          have HV2 := Lib.hid (hv2.trans HQ.out)
          have HL2 := Lib.hid hl2
          clear ho2 hd2 hv2 hl2 hb2 hown hsl CN CT
          go_wp2_with fail
          refine CTR.out.mono ?_
          rintro e w3 ⟨k2, rfl, htr, hy⟩
          replace hy := hy.symm
          subst hy
          have HT := Lib.hid htr
          clear htr CTR
          go_wp2
          go_roundw
          case rel => exact ⟨u.extract r u.size, j + r, k2, R.take k2, by go_num, by have := HUS.out; omega, HUD.out, .inr HR9.out, by have h1 := HT.out.1; have h2 := HL2.out; omega, by rw [show dcl (R.take k2) = (dcl R).take k2 from by simp [dcl, List.map_take]]; exact own_take HO2.out HT.out.1, dok_take HD2.out _, by rw [HT.out.dv]; exact HV2.out, HB2.out⟩
          case measure => simp only [szOf]; rw [HUZ.out]; omega
  · subst hneg
    go_wp2_with fail
    go_loopw [4, 6] (fun s4 s6 wr => ∃ (u : ByteArray) (j k : Nat) (D : List Nat), s4 = .string u ∧ j ≤ t.size ∧ u.data.toList = t.data.toList.drop j ∧ ((j = 0 ∧ D = []) ∨ (t.size - j) % 9 = 0) ∧ k ≤ j ∧ wr.ownsRow W0.heap.size 47 1 s6 k (dcl D) ∧ dok 4294967296 D ∧ dv 4294967296 D = nv (t.data.toList.take j) ∧ Below W0.heap.size W0 wr) (fun s4 _ _ => szOf s4)
    case atStart => exact ⟨t, 0, 0, [], rfl, Nat.zero_le _, rfl, .inl ⟨rfl, rfl⟩, Nat.le_refl _, World.ownsRow_nil _ _ _ _, dok_nil _, rfl, Below.refl _ _⟩
    case round =>
      obtain ⟨u, j, k, D, rfl, hj, hu, hm9, hkj, ho, hdk, hdv, hb⟩ := hrel
      have HU := Lib.hid hu
      have HO := Lib.hid ho
      have HDK := Lib.hid hdk
      have HDV := Lib.hid hdv
      have HBW := Lib.hid hb
      have H9 := Lib.hid hm9
      have HUS := Lib.hid (show u.size = t.size - j from by
        have := congrArg List.length hu
        rw [List.length_drop, HL.out] at this
        simpa using this)
      clear hu ho hdk hdv hb hm9
      by_cases h0 : u.size = 0
      · have hp : ¬ (0 : Int) < (u.size : Int) := by omega
        have HF := Lib.hid (show dv 4294967296 D = nv t.data.toList from by rw [HDV.out, List.take_of_length_le (by rw [HL.out]; have := HUS.out; omega)])
        obtain ⟨A, c, rfl, hown, hsl⟩ := own_row HO.out HDK.out
        have CS := Lib.hid (signed_any true A k c D _ wr hown hsl)
        rw [HF.out] at CS
        have HK2 := Lib.hid (HK.out.below HBW.out)
        have HB2 := Lib.hid (HB.out.trans (HBW.out.mono HB.out.size))
        clear hown hsl h0
        rw [HZZ.out] at CS
        go_wp2_with fail
        refine CS.out.mono ?_
        rintro e w2 ⟨v, rfl, hv, hb⟩
        have HV := Lib.hid (hv.mono HB.out.size (show k ≤ t.size + 1 by omega))
        have HB3 := Lib.hid (HB2.out.trans (hb.mono HB2.out.size))
        have HK3 := Lib.hid (HK2.out.below hb)
        clear hb hv CS
        obtain ⟨Ar, nr, cr, Dr, hevr, hor, hsr, hnr, hvr, hNr⟩ := HV.out
        obtain ⟨sbr, hsbr⟩ : ∃ b, b = decide (z < 0) := ⟨_, rfl⟩
        rw [← hsbr] at hevr
        subst hevr
        have HSBr := Lib.hid hsbr
        clear hsbr
        go_wp2_with ((refine wpList_store_row (o := ⟨none, _, _, _, _, _⟩) rfl 24 _ _ rfl (w.heap.size) #[.bool sbr, .slice Ar nr cr] rfl rfl 24 _ HK3.out (by kernel_rfl) rfl (by simp [Value.oneCell']) ?_))
        refine bodyPost_ret (results_ct rfl _ _ _ (w.heap.size) _ rfl (load24 (HK3.out.setRow (ds := #[.bool sbr, .slice Ar nr cr])) rfl)) rfl ?_
        exact ⟨_, rfl, NB.row ⟨Ar, nr, cr, Dr, by rw [HSBr.out], hor, hsr, hnr, hvr, hNr⟩ HK3.out _, HB3.out.grown (grown_row w2 (w.heap.size) _) HB3.out.size (fun j hj => by first | (injection hj with hj; omega) | omega | (cases hj; exact Nat.le_refl _))⟩
      · have hp : (0 : Int) < (u.size : Int) := by omega
        rcases Nat.eq_zero_or_pos (u.size % 9) with hr | hr
        · have hri : (u.size : Int) % 9 = 0 := by omega
          have hrt : (u.size : Int).tmod 9 = 0 := by rw [Int.tmod_eq_emod_of_nonneg (by omega)]; exact hri
          have hnle : 9 ≤ u.size := by omega
          have hnleI : (9 : Int) ≤ (u.size : Int) := by omega
          have HR9 := Lib.hid (show (t.size - (j + 9)) % 9 = 0 from by have := HUS.out; omega)
          have HN9 := Lib.hid (show (j = 0 ∧ D = []) ∨ 9 = 9 from .inr rfl)
          have hul : (u.extract 0 9).data.toList = u.data.toList.take 9 := by simp
          have hud : (u.extract 9 u.size).data.toList = u.data.toList.drop 9 := by simp [List.take_of_length_le]
          have huz : (u.extract 0 9).size = 9 := by simp; omega
          have hudz : (u.extract 9 u.size).size = u.size - 9 := by simp
          have CN := Lib.hid (number_any (u.extract 0 9) wr (by omega) (fun b hb => HD.out.2.1 b (by
            rw [hul, HU.out] at hb
            exact List.mem_of_mem_drop (List.mem_of_mem_take hb))))
          rw [hul] at CN
          obtain ⟨q, hq⟩ : ∃ q, nv (u.data.toList.take 9) = q := ⟨_, rfl⟩
          rw [hq] at CN
          have hqB : q < 4294967296 := by
            have h1 := nv_lt 9 (u.data.toList.take 9) (by rw [← hul]; simpa using huz) (fun b hb => HD.out.2.1 b (by
              rw [HU.out] at hb
              exact List.mem_of_mem_drop (List.mem_of_mem_take hb)))
            rw [hq] at h1
            have h2 : 10 ^ 9 ≤ 10 ^ 9 := Nat.pow_le_pow_right (by decide) (by omega)
            omega
          have HQ := Lib.hid (show dv 4294967296 D * 1000000000 + q = nv (t.data.toList.take (j + 9)) from by
            rw [List.take_add, nv_app, HDV.out, ← hq, HU.out]
            congr 1
            rcases HN9.out with ⟨h1, h2⟩ | h
            · subst h1
              simp [nv]
            · rw [List.length_take, List.length_drop, HL.out, show min 9 (t.size - j) = 9 from by have := HUS.out; omega])
          have HUD := Lib.hid (show (u.extract 9 u.size).data.toList = t.data.toList.drop (j + 9) from by rw [hud, HU.out, List.drop_drop])
          have HUZ := Lib.hid hudz
          have CT := Lib.hid (timesPlus_any u6 k D W0.heap.size 1000000000 q wr HO.out HDK.out (by omega) (by decide) hqB HBW.out.size)
          clear hul hud huz hudz hq hqB
          go_wp2_with fail
          refine CN.out.mono ?_
          rintro e w1 ⟨rfl, hy⟩
          replace hy := hy.symm
          subst hy
          go_wp2_with fail
          refine CT.out.mono ?_
          rintro e w2 ⟨v', R, rfl, ho2, hd2, hv2, hl2, hb2⟩
          obtain ⟨A, c, rfl, hown, hsl⟩ := own_row ho2 hd2
          have CTR := Lib.hid (trim_any A R.length c R w2 hown.dg hsl)
          have HB2 := Lib.hid (show Below W0.heap.size W0 w2 from HBW.out.trans hb2)
          have HO2 := Lib.hid ho2
          have HD2 := Lib.hid hd2
          have HV2 := Lib.hid (hv2.trans HQ.out)
          have HL2 := Lib.hid hl2
          clear ho2 hd2 hv2 hl2 hb2 hown hsl CN CT
          go_wp2_with fail
          refine CTR.out.mono ?_
          rintro e w3 ⟨k2, rfl, htr, hy⟩
          replace hy := hy.symm
          subst hy
          have HT := Lib.hid htr
          clear htr CTR
          go_wp2
          go_roundw
          case rel => exact ⟨u.extract 9 u.size, j + 9, k2, R.take k2, by go_num, by have := HUS.out; omega, HUD.out, .inr HR9.out, by have h1 := HT.out.1; have h2 := HL2.out; omega, by rw [show dcl (R.take k2) = (dcl R).take k2 from by simp [dcl, List.map_take]]; exact own_take HO2.out HT.out.1, dok_take HD2.out _, by rw [HT.out.dv]; exact HV2.out, HB2.out⟩
          case measure => simp only [szOf]; rw [HUZ.out]; omega
        · obtain ⟨r, hrr⟩ : ∃ r, u.size % 9 = r := ⟨_, rfl⟩
          have hr9 : r < 9 := by omega
          have hr0 : 0 < r := by omega
          have hri : (u.size : Int) % 9 = (r : Int) := by omega
          have hrt : (u.size : Int).tmod 9 = (r : Int) := by rw [Int.tmod_eq_emod_of_nonneg (by omega)]; exact hri
          have hrz : ((r : Int) == 0) = false := by simp; omega
          have hnle : r ≤ u.size := by omega
          have hnleI : (r : Int) ≤ (u.size : Int) := by omega
          have HR9 := Lib.hid (show (t.size - (j + r)) % 9 = 0 from by have := HUS.out; omega)
          have HN9 := Lib.hid (show (j = 0 ∧ D = []) ∨ r = 9 from by
            rcases H9.out with h | h
            · exact .inl h
            · have := HUS.out; omega)
          clear hrr hr
          have hul : (u.extract 0 r).data.toList = u.data.toList.take r := by simp
          have hud : (u.extract r u.size).data.toList = u.data.toList.drop r := by simp [List.take_of_length_le]
          have huz : (u.extract 0 r).size = r := by simp; omega
          have hudz : (u.extract r u.size).size = u.size - r := by simp
          have CN := Lib.hid (number_any (u.extract 0 r) wr (by omega) (fun b hb => HD.out.2.1 b (by
            rw [hul, HU.out] at hb
            exact List.mem_of_mem_drop (List.mem_of_mem_take hb))))
          rw [hul] at CN
          obtain ⟨q, hq⟩ : ∃ q, nv (u.data.toList.take r) = q := ⟨_, rfl⟩
          rw [hq] at CN
          have hqB : q < 4294967296 := by
            have h1 := nv_lt r (u.data.toList.take r) (by rw [← hul]; simpa using huz) (fun b hb => HD.out.2.1 b (by
              rw [HU.out] at hb
              exact List.mem_of_mem_drop (List.mem_of_mem_take hb)))
            rw [hq] at h1
            have h2 : 10 ^ r ≤ 10 ^ 9 := Nat.pow_le_pow_right (by decide) (by omega)
            omega
          have HQ := Lib.hid (show dv 4294967296 D * 1000000000 + q = nv (t.data.toList.take (j + r)) from by
            rw [List.take_add, nv_app, HDV.out, ← hq, HU.out]
            congr 1
            rcases HN9.out with ⟨h1, h2⟩ | h
            · subst h1
              simp [nv]
            · rw [List.length_take, List.length_drop, HL.out, show min r (t.size - j) = 9 from by have := HUS.out; omega])
          have HUD := Lib.hid (show (u.extract r u.size).data.toList = t.data.toList.drop (j + r) from by rw [hud, HU.out, List.drop_drop])
          have HUZ := Lib.hid hudz
          have CT := Lib.hid (timesPlus_any u6 k D W0.heap.size 1000000000 q wr HO.out HDK.out (by omega) (by decide) hqB HBW.out.size)
          clear hul hud huz hudz hq hqB
          go_wp2_with fail
          refine CN.out.mono ?_
          rintro e w1 ⟨rfl, hy⟩
          replace hy := hy.symm
          subst hy
          go_wp2_with fail
          refine CT.out.mono ?_
          rintro e w2 ⟨v', R, rfl, ho2, hd2, hv2, hl2, hb2⟩
          obtain ⟨A, c, rfl, hown, hsl⟩ := own_row ho2 hd2
          have CTR := Lib.hid (trim_any A R.length c R w2 hown.dg hsl)
          have HB2 := Lib.hid (show Below W0.heap.size W0 w2 from HBW.out.trans hb2)
          have HO2 := Lib.hid ho2
          have HD2 := Lib.hid hd2
          have HV2 := Lib.hid (hv2.trans HQ.out)
          have HL2 := Lib.hid hl2
          clear ho2 hd2 hv2 hl2 hb2 hown hsl CN CT
          go_wp2_with fail
          refine CTR.out.mono ?_
          rintro e w3 ⟨k2, rfl, htr, hy⟩
          replace hy := hy.symm
          subst hy
          have HT := Lib.hid htr
          clear htr CTR
          go_wp2
          go_roundw
          case rel => exact ⟨u.extract r u.size, j + r, k2, R.take k2, by go_num, by have := HUS.out; omega, HUD.out, .inr HR9.out, by have h1 := HT.out.1; have h2 := HL2.out; omega, by rw [show dcl (R.take k2) = (dcl R).take k2 from by simp [dcl, List.map_take]]; exact own_take HO2.out HT.out.1, dok_take HD2.out _, by rw [HT.out.dv]; exact HV2.out, HB2.out⟩
          case measure => simp only [szOf]; rw [HUZ.out]; omega
end Go.Proofs.YtndkcimdbidgaaaDoor
