/- Law SessionMatches: for every input the call returns true, and its arguments read afterwards as before. -/
import Derived.Test.YtgcjbpiofcggcaaRde
import Derived.Test.YtgcjbpiofcggcaaNum
namespace Go.Proofs.Ytgcjbpiofcggcaa
open Go.ChangeShapes Go.WideShapes Go.ChangeAt Go.RowKit Go.ChangeMaps

set_option maxRecDepth 100000 in
set_option maxHeartbeats 8000000 in
theorem sessionMatches_walk (x : Int) (A : Option Addr) (n c : Nat) (K : List Int) (D : Option Addr) (m d : Nat) (O : List Int) (w : World) (_ : -9223372036854775808 ≤ x) (_ : x ≤ 9223372036854775807) (hr : At w A n 1 (ic .i64 K)) (hn : n ≤ 9223372036854775807) (_ : ∀ z ∈ K, -9223372036854775808 ≤ z ∧ z ≤ 9223372036854775807)
    (ho : At w D m 1 (ic .u8 O)) (hm : m ≤ 9223372036854775807) (hO : ∀ z ∈ O, 0 ≤ z ∧ z ≤ 255) :
    Calls Try.prog 5 #[.int .i64 x, .slice A n c, .slice D m d] w fun e w' => e = .returned (.bool true) ∧ Below w.heap.size w w' := by
  have HL := Lib.hid hr.int
  have HM := Lib.hid ho.int
  have HK := Lib.hid hr
  have HO := Lib.hid ho
  have HOB := Lib.hid hO
  clear hr ho hO
  go_enter Try.func5, Try.ntmps5
  go_wp2_with fail
  refine (awake_any _).mono ?_
  rintro e w1 ⟨rfl, hb⟩
  have HW := Lib.hid hb
  clear hb
  by_cases h60 : n ≤ 60
  · by_cases h61 : m ≤ 60
    · have hn' : n ≤ 300000000000 := by omega
      go_wp2_with fail
      refine (Script_New _ _ _ K w1 (HK.out.below HW.out) (by omega)).mono ?_
      rintro e w2 ⟨A2, c2, rfl, hA2, hc2, hn2, hb⟩
      replace HW := Lib.hid (HW.out.trans (hb.mono HW.out.size))
      have HA := Lib.hid hA2
      have HC := Lib.hid hc2
      have HN := Lib.hid hn2
      clear hb hA2 hc2 hn2
      by_cases hx0 : x < 0
      · go_wp2_with fail
        refine (New_bad x (.inl hx0) _ _).mono ?_
        rintro e w3 ⟨rfl, rfl⟩
        go_wp2
        go_ret
        exact ⟨rfl, HW.out⟩
      · by_cases hx8 : 8 ≤ x
        · go_wp2_with fail
          refine (New_bad x (.inr hx8) _ _).mono ?_
          rintro e w3 ⟨rfl, rfl⟩
          go_wp2
          go_ret
          exact ⟨rfl, HW.out⟩
        · obtain ⟨num, rfl⟩ : ∃ num : Nat, x = (num : Int) := ⟨x.toNat, by omega⟩
          have hnum : num < 8 := by omega
          go_wp2_with fail
          refine (New_any num _ _ _ K w2 HA.out HL.out (by omega) HC.out HN.out hnum).mono ?_
          rintro e w3 ⟨p, rfl, hs, hb⟩
          have hp : w.heap.size ≤ p := by have h1 := HW.out.size; obtain ⟨_, _, _, h2, _⟩ := hs; omega
          have hpl := hs.lt
          replace HW := Lib.hid (HW.out.trans (hb.mono HW.out.size))
          have HS := Lib.hid hs
          clear hb hs HA HC HN
          obtain ⟨z1, z2⟩ : (num : Int) < 8 ∧ (0 : Int) ≤ num := by omega
          go_wp2_with fail
          replace HW := Lib.hid (HW.out.alloc HW.out.size (.cells #[.int .i64 (num : Int), .slice A n c, .int .i64 0, .int .i64 0] 36))
          have KA := Lib.hid (Blk.new w3 36 #[.int .i64 (num : Int), .slice A n c, .int .i64 ((0 : Nat) : Int), .int .i64 ((0 : Nat) : Int)])
          replace HS := Lib.hid (HS.out.below ((Below.refl _ w3).alloc (Nat.le_refl _) (.cells #[.int .i64 (num : Int), .slice A n c, .int .i64 0, .int .i64 0] 36)))
          have hgM : p + 1 ≤ w3.heap.size := hpl
          clear hpl
          have hg0 : w.heap.size ≤ w3.heap.size := by omega
          refine (agree_any _ _ _ p num K 0 0 HS.out A n c (HK.out.below HW.out) hn').mono ?_
          rintro e w4 ⟨rfl, hb⟩
          replace HW := Lib.hid (HW.out.trans (hb.mono HW.out.size))
          replace HS := Lib.hid (HS.out.below hb)
          replace KA := Lib.hid (KA.out.below hb)
          clear hb
          generalize w3.heap.size = g at *
          have hgp : g ≠ p := by omega
          go_wp2
          go_loopw [49] (fun i wr => ∃ k cur ex : Nat, k ≤ m ∧ i = .int .i64 (k : Int) ∧ (cur < (splitM K).length ∨ ex = 0) ∧ Ses wr w2.heap.size (p + 1) p num K cur ex ∧ Blk wr g 36 #[.int .i64 (num : Int), .slice A n c, .int .i64 (cur : Int), .int .i64 (ex : Int)] ∧ Below w.heap.size w wr) (fun i _ => m - (intOf i).toNat)
          case atStart => exact ⟨0, 0, 0, Nat.zero_le _, rfl, .inr rfl, HS.out, KA.out, HW.out⟩
          case round =>
            clear HS KA
            obtain ⟨k, cur, ex, hk, rfl, hI, hS, hK, hB⟩ := hrel
            have HS := Lib.hid hS
            have KA := Lib.hid hK
            have HB := Lib.hid hB
            have HI := Lib.hid hI
            have hcx : cur ≤ 300000000000 ∧ ex ≤ 300000000000 ∧ cur ≤ (splitM K).length := by obtain ⟨_, _, _, _, _, _, _, _, _, _, _, h1, h2, h3, _, h5⟩ := hS.parts; omega
            obtain ⟨hc1, hx1, hct⟩ := hcx
            clear hS hK hB hI
            by_cases hlt : k < m
            · obtain ⟨b, off, rfl, hb, hc⟩ := HO.out.2 (by omega)
              have hcell : wr.cell? ⟨b, off + k, none⟩ = some (.int .u8 (O.getD k 0)) := (HB.out.cell (p := ⟨b, off + k, none⟩) hb).trans (hc k _ (ic_get _ _ _ (by rw [HM.out]; exact hlt)))
              have ho : O.getD k 0 ∈ O := by rw [List.getD_eq_getElem?_getD, List.getElem?_eq_getElem (by rw [HM.out]; exact hlt)]; exact List.getElem_mem _
              clear hc hb
              generalize O.getD k 0 = o at *
              by_cases o0 : o = 0
              · subst o0
                go_wp2_with fail
                refine (adv_at _ _ _ _ _ _ _ _ HS.out (adv K cur ex) rfl).mono ?_
                rintro e v2 ⟨rfl, hg, hs⟩
                replace HB := Lib.hid (upd_below2 HB.out hp hg HB.out.size)
                obtain ⟨cur2, ex2, hq⟩ : ∃ cur2 ex2 : Nat, cur2 = cur ∧ ex2 = (adv K cur ex) := ⟨_, _, rfl, rfl⟩
                replace KA := Lib.hid (KA.out.keepg hg hgp)
                have CD := Lib.hid (fun (x : World) (hx : Below v2.heap.size v2 x) => rdo0 A n c K x (HK.out.below (HB.out.trans (hx.mono HB.out.size))) hn' num cur ex hc1 hx1 cur2 ex2 (by obtain ⟨rfl, rfl⟩ := hq; exact ⟨rfl, rfl⟩))
                have HS2 : Hid (Ses v2 w2.heap.size (p + 1) p num K cur2 ex2) := Lib.hid (by obtain ⟨rfl, rfl⟩ := hq; exact hs)
                clear hg hs HS
                have HS := HS2
                clear HS2
                have HI2 : Hid (cur2 < (splitM K).length ∨ ex2 = 0) := Lib.hid (by obtain ⟨rfl, rfl⟩ := hq; exact inv_adv HI.out)
                clear hq
                have a0 : v2.cell? ⟨g, 0, none⟩ = some (.int .i64 (num : Int)) := KA.out.cell 0
                have a1 : v2.cell? ⟨g, 1, none⟩ = some (.slice A n c) := KA.out.cell 1
                have a2 : v2.cell? ⟨g, 2, none⟩ = some (.int .i64 (cur : Int)) := KA.out.cell 2
                have a3 : v2.cell? ⟨g, 3, none⟩ = some (.int .i64 (ex : Int)) := KA.out.cell 3
                go_wp2_with fail
                refine (CD.out _ (Below.refl _ _)).mono ?_
                rintro e v3 ⟨rfl, hb⟩
                replace HB := Lib.hid (HB.out.trans (hb.mono HB.out.size))
                replace HS := Lib.hid (HS.out.below hb)
                replace KA := Lib.hid (KA.out.below hb)
                clear hb a0 a1 a2 a3 CD
                have a0 : v3.cell? ⟨g, 0, none⟩ = some (.int .i64 (num : Int)) := KA.out.cell 0
                have a1 : v3.cell? ⟨g, 1, none⟩ = some (.slice A n c) := KA.out.cell 1
                have a2 : v3.cell? ⟨g, 2, none⟩ = some (.int .i64 (cur : Int)) := KA.out.cell 2
                have a3 : v3.cell? ⟨g, 3, none⟩ = some (.int .i64 (ex : Int)) := KA.out.cell 3
                have f0 : v3.frozen? ⟨g, 0, none⟩ = false := Joins.unfrozen_of_block KA.out 0
                have f1 : v3.frozen? ⟨g, 1, none⟩ = false := Joins.unfrozen_of_block KA.out 1
                have f2 : v3.frozen? ⟨g, 2, none⟩ = false := Joins.unfrozen_of_block KA.out 2
                have f3 : v3.frozen? ⟨g, 3, none⟩ = false := Joins.unfrozen_of_block KA.out 3
                have KN : Hid (Blk ((((v3.setCell ⟨g, 0, none⟩ (.int .i64 (num : Int))).setCell ⟨g, 1, none⟩ (.slice A n c)).setCell ⟨g, 2, none⟩ (.int .i64 (cur2 : Int))).setCell ⟨g, 3, none⟩ (.int .i64 (ex2 : Int))) g 36 #[.int .i64 (num : Int), .slice A n c, .int .i64 (cur2 : Int), .int .i64 (ex2 : Int)]) := Lib.hid ((((KA.out.set_ 0 _).set_ 1 _).set_ 2 _).set_ 3 _)
                have HBN := Lib.hid (below_set4 (i0 := 0) (i1 := 1) (i2 := 2) (i3 := 3) (u0 := .int .i64 (num : Int)) (u1 := .slice A n c) (u2 := .int .i64 (cur2 : Int)) (u3 := .int .i64 (ex2 : Int)) HB.out hg0 HB.out.size)
                have HSN := Lib.hid ((((HS.out.grown (grown_set v3 g 0 (.int .i64 (num : Int))) (.inl hgM)).grown (grown_set _ g 1 (.slice A n c)) (.inl hgM)).grown (grown_set _ g 2 (.int .i64 (cur2 : Int))) (.inl hgM)).grown (grown_set _ g 3 (.int .i64 (ex2 : Int))) (.inl hgM))
                clear KA HB HS
                go_wp2_with fail
                generalize (((v3.setCell ⟨g, 0, none⟩ (.int .i64 (num : Int))).setCell ⟨g, 1, none⟩ (.slice A n c)).setCell ⟨g, 2, none⟩ (.int .i64 (cur2 : Int))).setCell ⟨g, 3, none⟩ (.int .i64 (ex2 : Int)) = v4 at *
                refine (agree_any _ _ _ _ _ _ _ _ HSN.out _ n c (HK.out.below HBN.out) hn').mono ?_
                rintro e v5 ⟨rfl, hb⟩
                have HB := Lib.hid (HBN.out.trans (hb.mono HBN.out.size))
                have HS := Lib.hid (HSN.out.below hb)
                have KA := Lib.hid (KN.out.below hb)
                clear hb
                go_wp2
                go_roundw
                case rel => exact ⟨k + 1, cur2, ex2, by omega, by go_num, HI2.out, HS.out, KA.out, HB.out⟩
                case measure => simp [intOf]; omega
              · by_cases o1 : o = 1
                · subst o1
                  go_wp2_with fail
                  refine (Restart_any _ _ _ _ _ _ _ _ HS.out).mono ?_
                  rintro e v2 ⟨rfl, hg, hs⟩
                  replace HB := Lib.hid (upd_below2 HB.out hp hg HB.out.size)
                  obtain ⟨cur2, ex2, hq⟩ : ∃ cur2 ex2 : Nat, cur2 = cur ∧ ex2 = 0 := ⟨_, _, rfl, rfl⟩
                  replace KA := Lib.hid (KA.out.keepg hg hgp)
                  have CD := Lib.hid (fun (x : World) (hx : Below v2.heap.size v2 x) => rdo1 A n c K x (HK.out.below (HB.out.trans (hx.mono HB.out.size))) hn' num cur ex hc1 hx1 cur2 ex2 (by obtain ⟨rfl, rfl⟩ := hq; exact ⟨rfl, rfl, HI.out⟩))
                  have HS2 : Hid (Ses v2 w2.heap.size (p + 1) p num K cur2 ex2) := Lib.hid (by obtain ⟨rfl, rfl⟩ := hq; exact hs)
                  clear hg hs HS
                  have HS := HS2
                  clear HS2
                  have HI2 : Hid (cur2 < (splitM K).length ∨ ex2 = 0) := Lib.hid (by obtain ⟨rfl, rfl⟩ := hq; exact .inr rfl)
                  clear hq
                  have a0 : v2.cell? ⟨g, 0, none⟩ = some (.int .i64 (num : Int)) := KA.out.cell 0
                  have a1 : v2.cell? ⟨g, 1, none⟩ = some (.slice A n c) := KA.out.cell 1
                  have a2 : v2.cell? ⟨g, 2, none⟩ = some (.int .i64 (cur : Int)) := KA.out.cell 2
                  have a3 : v2.cell? ⟨g, 3, none⟩ = some (.int .i64 (ex : Int)) := KA.out.cell 3
                  go_wp2_with fail
                  refine (CD.out _ (Below.refl _ _)).mono ?_
                  rintro e v3 ⟨rfl, hb⟩
                  replace HB := Lib.hid (HB.out.trans (hb.mono HB.out.size))
                  replace HS := Lib.hid (HS.out.below hb)
                  replace KA := Lib.hid (KA.out.below hb)
                  clear hb a0 a1 a2 a3 CD
                  have a0 : v3.cell? ⟨g, 0, none⟩ = some (.int .i64 (num : Int)) := KA.out.cell 0
                  have a1 : v3.cell? ⟨g, 1, none⟩ = some (.slice A n c) := KA.out.cell 1
                  have a2 : v3.cell? ⟨g, 2, none⟩ = some (.int .i64 (cur : Int)) := KA.out.cell 2
                  have a3 : v3.cell? ⟨g, 3, none⟩ = some (.int .i64 (ex : Int)) := KA.out.cell 3
                  have f0 : v3.frozen? ⟨g, 0, none⟩ = false := Joins.unfrozen_of_block KA.out 0
                  have f1 : v3.frozen? ⟨g, 1, none⟩ = false := Joins.unfrozen_of_block KA.out 1
                  have f2 : v3.frozen? ⟨g, 2, none⟩ = false := Joins.unfrozen_of_block KA.out 2
                  have f3 : v3.frozen? ⟨g, 3, none⟩ = false := Joins.unfrozen_of_block KA.out 3
                  have KN : Hid (Blk ((((v3.setCell ⟨g, 0, none⟩ (.int .i64 (num : Int))).setCell ⟨g, 1, none⟩ (.slice A n c)).setCell ⟨g, 2, none⟩ (.int .i64 (cur2 : Int))).setCell ⟨g, 3, none⟩ (.int .i64 (ex2 : Int))) g 36 #[.int .i64 (num : Int), .slice A n c, .int .i64 (cur2 : Int), .int .i64 (ex2 : Int)]) := Lib.hid ((((KA.out.set_ 0 _).set_ 1 _).set_ 2 _).set_ 3 _)
                  have HBN := Lib.hid (below_set4 (i0 := 0) (i1 := 1) (i2 := 2) (i3 := 3) (u0 := .int .i64 (num : Int)) (u1 := .slice A n c) (u2 := .int .i64 (cur2 : Int)) (u3 := .int .i64 (ex2 : Int)) HB.out hg0 HB.out.size)
                  have HSN := Lib.hid ((((HS.out.grown (grown_set v3 g 0 (.int .i64 (num : Int))) (.inl hgM)).grown (grown_set _ g 1 (.slice A n c)) (.inl hgM)).grown (grown_set _ g 2 (.int .i64 (cur2 : Int))) (.inl hgM)).grown (grown_set _ g 3 (.int .i64 (ex2 : Int))) (.inl hgM))
                  clear KA HB HS
                  go_wp2_with fail
                  generalize (((v3.setCell ⟨g, 0, none⟩ (.int .i64 (num : Int))).setCell ⟨g, 1, none⟩ (.slice A n c)).setCell ⟨g, 2, none⟩ (.int .i64 (cur2 : Int))).setCell ⟨g, 3, none⟩ (.int .i64 (ex2 : Int)) = v4 at *
                  refine (agree_any _ _ _ _ _ _ _ _ HSN.out _ n c (HK.out.below HBN.out) hn').mono ?_
                  rintro e v5 ⟨rfl, hb⟩
                  have HB := Lib.hid (HBN.out.trans (hb.mono HBN.out.size))
                  have HS := Lib.hid (HSN.out.below hb)
                  have KA := Lib.hid (KN.out.below hb)
                  clear hb
                  go_wp2
                  go_roundw
                  case rel => exact ⟨k + 1, cur2, ex2, by omega, by go_num, HI2.out, HS.out, KA.out, HB.out⟩
                  case measure => simp [intOf]; omega
                · by_cases o2 : o = 2
                  · subst o2
                    go_wp2_with fail
                    refine (fin_at _ _ _ _ _ _ _ _ HS.out (fin K cur ex).1 (fin K cur ex).2 rfl).mono ?_
                    rintro e v2 ⟨rfl, hg, hs⟩
                    replace HB := Lib.hid (upd_below2 HB.out hp hg HB.out.size)
                    obtain ⟨cur2, ex2, hq⟩ : ∃ cur2 ex2 : Nat, cur2 = (fin K cur ex).1 ∧ ex2 = (fin K cur ex).2 := ⟨_, _, rfl, rfl⟩
                    replace KA := Lib.hid (KA.out.keepg hg hgp)
                    have CD := Lib.hid (fun (x : World) (hx : Below v2.heap.size v2 x) => rdo2 A n c K x (HK.out.below (HB.out.trans (hx.mono HB.out.size))) hn' num cur ex hc1 hx1 cur2 ex2 (by obtain ⟨rfl, rfl⟩ := hq; exact rfl))
                    have HS2 : Hid (Ses v2 w2.heap.size (p + 1) p num K cur2 ex2) := Lib.hid (by obtain ⟨rfl, rfl⟩ := hq; exact hs)
                    clear hg hs HS
                    have HS := HS2
                    clear HS2
                    have HI2 : Hid (cur2 < (splitM K).length ∨ ex2 = 0) := Lib.hid (by obtain ⟨rfl, rfl⟩ := hq; exact inv_fin HI.out)
                    clear hq
                    have a0 : v2.cell? ⟨g, 0, none⟩ = some (.int .i64 (num : Int)) := KA.out.cell 0
                    have a1 : v2.cell? ⟨g, 1, none⟩ = some (.slice A n c) := KA.out.cell 1
                    have a2 : v2.cell? ⟨g, 2, none⟩ = some (.int .i64 (cur : Int)) := KA.out.cell 2
                    have a3 : v2.cell? ⟨g, 3, none⟩ = some (.int .i64 (ex : Int)) := KA.out.cell 3
                    go_wp2_with fail
                    refine (CD.out _ (Below.refl _ _)).mono ?_
                    rintro e v3 ⟨rfl, hb⟩
                    replace HB := Lib.hid (HB.out.trans (hb.mono HB.out.size))
                    replace HS := Lib.hid (HS.out.below hb)
                    replace KA := Lib.hid (KA.out.below hb)
                    clear hb a0 a1 a2 a3 CD
                    have a0 : v3.cell? ⟨g, 0, none⟩ = some (.int .i64 (num : Int)) := KA.out.cell 0
                    have a1 : v3.cell? ⟨g, 1, none⟩ = some (.slice A n c) := KA.out.cell 1
                    have a2 : v3.cell? ⟨g, 2, none⟩ = some (.int .i64 (cur : Int)) := KA.out.cell 2
                    have a3 : v3.cell? ⟨g, 3, none⟩ = some (.int .i64 (ex : Int)) := KA.out.cell 3
                    have f0 : v3.frozen? ⟨g, 0, none⟩ = false := Joins.unfrozen_of_block KA.out 0
                    have f1 : v3.frozen? ⟨g, 1, none⟩ = false := Joins.unfrozen_of_block KA.out 1
                    have f2 : v3.frozen? ⟨g, 2, none⟩ = false := Joins.unfrozen_of_block KA.out 2
                    have f3 : v3.frozen? ⟨g, 3, none⟩ = false := Joins.unfrozen_of_block KA.out 3
                    have KN : Hid (Blk ((((v3.setCell ⟨g, 0, none⟩ (.int .i64 (num : Int))).setCell ⟨g, 1, none⟩ (.slice A n c)).setCell ⟨g, 2, none⟩ (.int .i64 (cur2 : Int))).setCell ⟨g, 3, none⟩ (.int .i64 (ex2 : Int))) g 36 #[.int .i64 (num : Int), .slice A n c, .int .i64 (cur2 : Int), .int .i64 (ex2 : Int)]) := Lib.hid ((((KA.out.set_ 0 _).set_ 1 _).set_ 2 _).set_ 3 _)
                    have HBN := Lib.hid (below_set4 (i0 := 0) (i1 := 1) (i2 := 2) (i3 := 3) (u0 := .int .i64 (num : Int)) (u1 := .slice A n c) (u2 := .int .i64 (cur2 : Int)) (u3 := .int .i64 (ex2 : Int)) HB.out hg0 HB.out.size)
                    have HSN := Lib.hid ((((HS.out.grown (grown_set v3 g 0 (.int .i64 (num : Int))) (.inl hgM)).grown (grown_set _ g 1 (.slice A n c)) (.inl hgM)).grown (grown_set _ g 2 (.int .i64 (cur2 : Int))) (.inl hgM)).grown (grown_set _ g 3 (.int .i64 (ex2 : Int))) (.inl hgM))
                    clear KA HB HS
                    go_wp2_with fail
                    generalize (((v3.setCell ⟨g, 0, none⟩ (.int .i64 (num : Int))).setCell ⟨g, 1, none⟩ (.slice A n c)).setCell ⟨g, 2, none⟩ (.int .i64 (cur2 : Int))).setCell ⟨g, 3, none⟩ (.int .i64 (ex2 : Int)) = v4 at *
                    refine (agree_any _ _ _ _ _ _ _ _ HSN.out _ n c (HK.out.below HBN.out) hn').mono ?_
                    rintro e v5 ⟨rfl, hb⟩
                    have HB := Lib.hid (HBN.out.trans (hb.mono HBN.out.size))
                    have HS := Lib.hid (HSN.out.below hb)
                    have KA := Lib.hid (KN.out.below hb)
                    clear hb
                    go_wp2
                    go_roundw
                    case rel => exact ⟨k + 1, cur2, ex2, by omega, by go_num, HI2.out, HS.out, KA.out, HB.out⟩
                    case measure => simp [intOf]; omega
                  · have q0 : (o == 0) = false := by simpa using o0
                    have q1 : (o == 1) = false := by simpa using o1
                    have q2 : (o == 2) = false := by simpa using o2
                    have hob := HOB.out o ho
                    obtain ⟨hob1, hob2⟩ := hob
                    obtain ⟨cur2, ex2, hq⟩ : ∃ cur2 ex2 : Nat, cur2 = cur ∧ ex2 = ex := ⟨_, _, rfl, rfl⟩
                    have CD : Hid (∀ (x : World), Below wr.heap.size wr x → Calls Try.prog 19 #[.agg #[.int .i64 (num : Int), .slice A n c, .int .i64 (cur : Int), .int .i64 (ex : Int)], .int .i64 o] x fun e w' => e = .returned (.agg #[.int .i64 (num : Int), .slice A n c, .int .i64 (cur2 : Int), .int .i64 (ex2 : Int)]) ∧ Below x.heap.size x w') := Lib.hid (fun x hx => by rw [hq.1, hq.2]; exact RDo_other A n c K x (HK.out.below (HB.out.trans (hx.mono HB.out.size))) hn' num cur ex hc1 hx1 o q0 q1 q2 trivial)
                    have HS2 : Hid (Ses wr w2.heap.size (p + 1) p num K cur2 ex2) := Lib.hid (by obtain ⟨rfl, rfl⟩ := hq; exact HS.out)
                    clear HS
                    have HS := HS2
                    clear HS2
                    have HI2 : Hid (cur2 < (splitM K).length ∨ ex2 = 0) := Lib.hid (by obtain ⟨rfl, rfl⟩ := hq; exact HI.out)
                    clear hq
                    have a0 : wr.cell? ⟨g, 0, none⟩ = some (.int .i64 (num : Int)) := KA.out.cell 0
                    have a1 : wr.cell? ⟨g, 1, none⟩ = some (.slice A n c) := KA.out.cell 1
                    have a2 : wr.cell? ⟨g, 2, none⟩ = some (.int .i64 (cur : Int)) := KA.out.cell 2
                    have a3 : wr.cell? ⟨g, 3, none⟩ = some (.int .i64 (ex : Int)) := KA.out.cell 3
                    go_wp2_with fail
                    refine (CD.out _ (Below.refl _ _)).mono ?_
                    rintro e v3 ⟨rfl, hb⟩
                    replace HB := Lib.hid (HB.out.trans (hb.mono HB.out.size))
                    replace HS := Lib.hid (HS.out.below hb)
                    replace KA := Lib.hid (KA.out.below hb)
                    clear hb a0 a1 a2 a3 CD
                    have a0 : v3.cell? ⟨g, 0, none⟩ = some (.int .i64 (num : Int)) := KA.out.cell 0
                    have a1 : v3.cell? ⟨g, 1, none⟩ = some (.slice A n c) := KA.out.cell 1
                    have a2 : v3.cell? ⟨g, 2, none⟩ = some (.int .i64 (cur : Int)) := KA.out.cell 2
                    have a3 : v3.cell? ⟨g, 3, none⟩ = some (.int .i64 (ex : Int)) := KA.out.cell 3
                    have f0 : v3.frozen? ⟨g, 0, none⟩ = false := Joins.unfrozen_of_block KA.out 0
                    have f1 : v3.frozen? ⟨g, 1, none⟩ = false := Joins.unfrozen_of_block KA.out 1
                    have f2 : v3.frozen? ⟨g, 2, none⟩ = false := Joins.unfrozen_of_block KA.out 2
                    have f3 : v3.frozen? ⟨g, 3, none⟩ = false := Joins.unfrozen_of_block KA.out 3
                    have KN : Hid (Blk ((((v3.setCell ⟨g, 0, none⟩ (.int .i64 (num : Int))).setCell ⟨g, 1, none⟩ (.slice A n c)).setCell ⟨g, 2, none⟩ (.int .i64 (cur2 : Int))).setCell ⟨g, 3, none⟩ (.int .i64 (ex2 : Int))) g 36 #[.int .i64 (num : Int), .slice A n c, .int .i64 (cur2 : Int), .int .i64 (ex2 : Int)]) := Lib.hid ((((KA.out.set_ 0 _).set_ 1 _).set_ 2 _).set_ 3 _)
                    have HBN := Lib.hid (below_set4 (i0 := 0) (i1 := 1) (i2 := 2) (i3 := 3) (u0 := .int .i64 (num : Int)) (u1 := .slice A n c) (u2 := .int .i64 (cur2 : Int)) (u3 := .int .i64 (ex2 : Int)) HB.out hg0 HB.out.size)
                    have HSN := Lib.hid ((((HS.out.grown (grown_set v3 g 0 (.int .i64 (num : Int))) (.inl hgM)).grown (grown_set _ g 1 (.slice A n c)) (.inl hgM)).grown (grown_set _ g 2 (.int .i64 (cur2 : Int))) (.inl hgM)).grown (grown_set _ g 3 (.int .i64 (ex2 : Int))) (.inl hgM))
                    clear KA HB HS
                    go_wp2_with fail
                    generalize (((v3.setCell ⟨g, 0, none⟩ (.int .i64 (num : Int))).setCell ⟨g, 1, none⟩ (.slice A n c)).setCell ⟨g, 2, none⟩ (.int .i64 (cur2 : Int))).setCell ⟨g, 3, none⟩ (.int .i64 (ex2 : Int)) = v4 at *
                    refine (agree_any _ _ _ _ _ _ _ _ HSN.out _ n c (HK.out.below HBN.out) hn').mono ?_
                    rintro e v5 ⟨rfl, hb⟩
                    have HB := Lib.hid (HBN.out.trans (hb.mono HBN.out.size))
                    have HS := Lib.hid (HSN.out.below hb)
                    have KA := Lib.hid (KN.out.below hb)
                    clear hb
                    go_wp2
                    go_roundw
                    case rel => exact ⟨k + 1, cur2, ex2, by omega, by go_num, HI2.out, HS.out, KA.out, HB.out⟩
                    case measure => simp [intOf]; omega
            · obtain rfl : k = m := by omega
              go_wp2
              go_ret
              exact ⟨rfl, HB.out⟩
    · go_wp2_with fail
      refine (awake_any _).mono ?_
      rintro e w5 ⟨rfl, hb⟩
      replace HW := Lib.hid (HW.out.trans (hb.mono HW.out.size))
      clear hb
      go_wp2
      go_ret
      exact ⟨rfl, HW.out⟩
  · go_wp2_with fail
    refine (awake_any _).mono ?_
    rintro e w5 ⟨rfl, hb⟩
    replace HW := Lib.hid (HW.out.trans (hb.mono HW.out.size))
    clear hb
    go_wp2
    go_ret
    exact ⟨rfl, HW.out⟩

set_option maxRecDepth 100000 in
theorem sessionMatches_lifted (os : Os) (started : os.Started) (H : Type) (enc : TypeId × Value → H) :
    ReturnsInHanded {} Try.checked os 5 .any (Rows.sessionMatchesSpec.pre6 enc Try.prog Try.f5 Rows.sessionMatchesRow.domain false) (Rows.sessionMatchesSpec.post enc Try.prog Try.f5 false true false false) := by
  refine law_lifted (C := Try.checked) (B := 4) Try.own started (by kernel_rfl) Try.func5
    (ChangeSpec.witness6 (enc := enc) (C := Try.checked) false ⟨#[], #[.int .i64 0, .slice none 0 0, .slice none 0 0], []⟩ 8 (by kernel_rfl) (by kernel_rfl) (by kernel_rfl) (by kernel_rfl))
    Try.laidOut (by kernel_rfl) rfl rfl rfl Try.underlying4 (fun ds h => match ds, h with | [_, _, _], _ => rfl) ?_
  intro W base args ds ps hval hA hlt hsz
  rw [Try.params5] at hA hval hsz
  obtain ⟨v0, vs0, d0, ds0, p0, q0, hargs, rfl, rfl, h0, r0⟩ := trodAll_cons hA
  obtain ⟨v1, vs1, d1, ds1, p1, q1, rfl, rfl, rfl, h1, r1⟩ := trodAll_cons r0
  obtain ⟨v2, vs2, d2, ds2, p2, q2, rfl, rfl, rfl, h2, r2⟩ := trodAll_cons r1
  obtain ⟨rfl, rfl, rfl⟩ := trodAll_nil r2
  obtain rfl : args = #[v0, v1, v2] := by cases args; simp_all
  obtain ⟨a0, rfl, rfl, rfl, w0⟩ := open_int Try.underlying3 (hval 0 3 v0 rfl rfl) h0
  obtain ⟨l0, g0⟩ := i64_bd w0
  obtain ⟨A1, n1, c1, R1, rfl, k1, l1, g1⟩ := open_intsA (hval 1 22 v1 rfl rfl) h1 (fun x hx => hlt x (by simp [hx]))
  obtain ⟨A2, n2, c2, R2, rfl, k2, l2, g2⟩ := open_bytesA (hval 2 32 v2 rfl rfl) h2 (fun x hx => hlt x (by simp [hx]))
  exact sessionMatches_walk a0 A1 n1 c1 R1 A2 n2 c2 R2 W l0 g0 k1 l1 g1 k2 l2 g2

theorem sessionMatches_over : Rows.sessionMatchesRow.holds Try.pinned (OpenSpec.ofChange Rows.sessionMatchesSpec) :=
  OpenClaim.holds_of_wide 5 Try.f5 rfl rfl rfl rfl rfl rfl rfl ⟨rfl, rfl, rfl, rfl, rfl⟩ rfl rfl rfl rfl rfl (by kernel_rfl) Try.func5 (by kernel_rfl)
    (of_decide_eq_true (by kernel_rfl)) (by unfold Func.isWrapper; first | (rw [if_pos (by decide +kernel)]; kernel_rfl) | (rw [if_neg (by decide +kernel)]; exact ⟨rfl, rfl⟩))
    (fun os started H enc _ => sessionMatches_lifted os started H enc)

theorem sessionMatches_proved : Rows.SessionMatchesSaid := sessionMatches_over
end Go.Proofs.Ytgcjbpiofcggcaa
