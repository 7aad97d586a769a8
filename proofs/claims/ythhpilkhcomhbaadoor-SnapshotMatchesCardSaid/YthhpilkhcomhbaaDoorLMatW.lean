/- The walk of the law SnapshotMatches. -/
import Derived.Test.YthhpilkhcomhbaaDoorSdo
import Derived.Test.YthhpilkhcomhbaaDoorSne
import Derived.Test.YthhpilkhcomhbaaDoorAwa
import Derived.Deep.Cut
namespace Go.Proofs.YthhpilkhcomhbaaDoor
open Go.ChangeShapes Go.WideShapes Go.ChangeAt Go.RowKit Go.ChangeMaps

set_option maxRecDepth 100000 in
set_option maxHeartbeats 4000000 in
theorem snapshotMatches_walk (x0 : Int) (A : Option Addr) (n c : Nat) (L : List ActM) (w : World) (hx0 : 0 ≤ x0) (hx1 : x0 ≤ 255) (hr : ActsAt w A n L) (hn : n ≤ 9223372036854775807) (hev : Env w) :
    Calls Tryd.prog 4 #[.int .u8 x0, .slice A n c] w fun e w' => e = .returned (.bool true) ∧ Below w.heap.size w w' := by
  obtain ⟨S, rfl⟩ : ∃ S : Nat, x0 = S := ⟨x0.toNat, by omega⟩
  have hS0 : 0 < w.heap.size := hev.big
  have HEV := Lib.hid hev
  have HB := Lib.hid (Below.refl w.heap.size w)
  have HO := Lib.hid hr
  have HL := Lib.hid hr.1
  have HEVW := Lib.hid hev
  clear hev hr
  by_cases h1 : (S : Int) < 1
  · have d1 : decide ((S : Int) < 1) = true := decide_eq_true h1
    go_enter Tryd.func4, Tryd.ntmps4
    go_wp2_with fail
    refine (awake_any _ HEV.out).mono ?_
    rintro e w1 ⟨rfl, hb⟩
    replace HB := Lib.hid (HB.out.trans (hb.mono HB.out.size))
    replace HEV := Lib.hid (HEV.out.below hb)
    clear hb
    go_wp2_with fail
    refine (awake_any _ HEV.out).mono ?_
    rintro e w1 ⟨rfl, hb⟩
    replace HB := Lib.hid (HB.out.trans (hb.mono HB.out.size))
    replace HEV := Lib.hid (HEV.out.below hb)
    clear hb
    go_wp2
    go_ret
    exact ⟨rfl, HB.out⟩
  · have d1 : decide ((S : Int) < 1) = false := decide_eq_false h1
    by_cases h2 : (30 : Int) < S
    · have d2 : decide ((30 : Int) < S) = true := decide_eq_true h2
      go_enter Tryd.func4, Tryd.ntmps4
      go_wp2_with fail
      refine (awake_any _ HEV.out).mono ?_
      rintro e w1 ⟨rfl, hb⟩
      replace HB := Lib.hid (HB.out.trans (hb.mono HB.out.size))
      replace HEV := Lib.hid (HEV.out.below hb)
      clear hb
      go_wp2_with fail
      refine (awake_any _ HEV.out).mono ?_
      rintro e w1 ⟨rfl, hb⟩
      replace HB := Lib.hid (HB.out.trans (hb.mono HB.out.size))
      replace HEV := Lib.hid (HEV.out.below hb)
      clear hb
      go_wp2
      go_ret
      exact ⟨rfl, HB.out⟩
    · have d2 : decide ((30 : Int) < S) = false := decide_eq_false h2
      by_cases h3 : (12 : Int) < n
      · have d3 : decide ((12 : Int) < n) = true := decide_eq_true h3
        go_enter Tryd.func4, Tryd.ntmps4
        go_wp2_with fail
        refine (awake_any _ HEV.out).mono ?_
        rintro e w1 ⟨rfl, hb⟩
        replace HB := Lib.hid (HB.out.trans (hb.mono HB.out.size))
        replace HEV := Lib.hid (HEV.out.below hb)
        clear hb
        go_wp2_with fail
        refine (awake_any _ HEV.out).mono ?_
        rintro e w1 ⟨rfl, hb⟩
        replace HB := Lib.hid (HB.out.trans (hb.mono HB.out.size))
        replace HEV := Lib.hid (HEV.out.below hb)
        clear hb
        go_wp2
        go_ret
        exact ⟨rfl, HB.out⟩
      · have d3 : decide ((12 : Int) < n) = false := decide_eq_false h3
        have hn12 : n ≤ 12 := by omega
        have hS1 : 1 ≤ S := by omega
        have hS30 : S ≤ 30 := by omega
        go_enter Tryd.func4, Tryd.ntmps4
        go_wp2_with fail
        refine (awake_any _ HEV.out).mono ?_
        rintro e w1 ⟨rfl, hb⟩
        replace HB := Lib.hid (HB.out.trans (hb.mono HB.out.size))
        replace HEV := Lib.hid (HEV.out.below hb)
        clear hb
        go_wp2
        go_loopw [31] (fun i wr => ∃ k : Nat, k ≤ n ∧ i = .int .i64 (k : Int) ∧ (∀ j (hj : j < L.length), j < k → L[j].m ≤ 600) ∧ Below w.heap.size w wr) (fun i _ => n - (intOf i).toNat)
        case atStart => exact ⟨0, Nat.zero_le _, rfl, fun j _ h => absurd h (by omega), HB.out⟩
        case round =>
          clear HB HEV
          obtain ⟨k, hk, rfl, hM, hB⟩ := hrel
          have HM := Lib.hid hM
          have HB := Lib.hid hB
          clear hM hB
          by_cases hlt : k < n
          · obtain ⟨b1, off, rfl, hbl, hcc⟩ := HO.out.2 (by omega)
            have hki : (k : Int) < n := by omega
            have hkk : (0 : Int) ≤ (k : Int) := by omega
            have hk2 : k < L.length := by rw [HL.out]; exact hlt
            have hh := (hcc k hk2).below (show Below w.heap.size w wr from HB.out)
            have HMK := Lib.hid (show ∀ m, L[k].m = m → m ≤ 600 → ∀ j (hj : j < L.length), j < k + 1 → L[j].m ≤ 600 from fun m e hm j hj hjk => by
              rcases Nat.lt_or_ge j k with h | h
              · exact HM.out j hj h
              · obtain rfl : j = k := by omega
                rw [e]; exact hm)
            generalize L[k] = o at hh HMK
            obtain ⟨ok, oe, oA, om, oc, od, on, ob⟩ := o
            obtain ⟨q0, q1, q2, q3, q4, -, -⟩ := hh
            simp only at q0 q1 q2 q3 q4 HMK
            have hbw : b1 < wr.heap.size := Nat.lt_of_lt_of_le hbl HB.out.size
            have HBN := Lib.hid (HB.out.alloc HB.out.size (.cells #[.int .u8 ok, .int .u32 (oe : Int), .slice oA om oc, .int .i64 on, .int .i64 ob] 38))
            clear hcc
            by_cases hm : om ≤ 600
            · have dm : decide ((600 : Int) < om) = false := decide_eq_false (by omega)
              have hm2 : ¬ (600 : Int) < om := by omega
              have HM2 := Lib.hid (HMK.out om rfl hm)
              go_wp2
              go_roundw
              case rel => exact ⟨k + 1, hlt, by go_num, HM2.out, HBN.out⟩
              case measure => simp [intOf]; omega
            · have dm : decide ((600 : Int) < om) = true := decide_eq_true (by omega)
              have hm2 : (600 : Int) < om := by omega
              go_wp2
              go_ret
              exact ⟨rfl, HBN.out⟩
          · obtain rfl : k = n := by omega
            have HM6 := Lib.hid (show ∀ j (hj : j < L.length), L[j].m ≤ 600 from fun j hj => HM.out j hj (by rw [← HL.out]; exact hj))
            have HEV := Lib.hid HEVW.out
            clear HM
            go_wp2_with fail
            refine (New_ok _ S hS1 (by omega)).mono ?_
            rintro e w1 ⟨rfl, hd, hb⟩
            have HD := Lib.hid hd
            have hlt2 : wr.heap.size + 1 < w1.heap.size := hd.1.lt
            have HSZ := Lib.hid HB.out.size
            replace HB := Lib.hid (HB.out.trans (hb.mono HB.out.size))
            clear hd hb
            go_wp2_with fail
            refine (RNewN_any w1 S hS1 (by omega)).mono ?_
            rintro e w2 ⟨rfl, ⟨v, G, g1, g2, g3⟩, hb⟩
            obtain ⟨t, ht1, ht2, hrk⟩ := Rk_newN hS1 (by omega) g1 g2 g3 (Nat.le_refl _)
            have hws := HSZ.out
            have hrk := hrk (F4 (wr.heap.size + 1) wr.heap.size w1.heap.size t) (fun k hk => by
              rcases hk with e | e | e | e
              · left; omega
              · left; omega
              · right; left; exact e
              · right; right; exact e)
            replace HB := Lib.hid (HB.out.trans (hb.mono HB.out.size))
            have HM := Lib.hid (show DM w2 (wr.heap.size + 1) wr.heap.size w1.heap.size t (St.new S) from ⟨HD.out.below hb, hrk, ⟨by omega, by omega, by omega, by omega⟩, HEV.out.below HB.out, fun hk => by rcases hk with e | e | e | e <;> omega⟩)
            have HF := Lib.hid (show ∀ k, F4 (wr.heap.size + 1) wr.heap.size w1.heap.size t k → w.heap.size ≤ k from fun k hk => by rcases hk with e | e | e | e <;> omega)
            clear g1 g2 g3 hrk hb HD hlt2 ht1 ht2 HSZ hws HEV
            generalize wr.heap.size + 1 = p at *
            generalize wr.heap.size = q at *
            generalize w1.heap.size = r at *
            go_wp2
            go_loopw [56] (fun i wr => ∃ (j : Nat) (s : St), j ≤ k ∧ i = .int .i64 (j : Int) ∧ DM wr p q r t s ∧ s.J ∧ s.x ≤ 602 * j ∧ Below w.heap.size w wr) (fun i _ => k - (intOf i).toNat)
            case atStart => exact ⟨0, St.new S, Nat.zero_le _, rfl, HM.out, (fun e => by cases e), by simp [St.new], HB.out⟩
            case round =>
              clear HM HB
              obtain ⟨j, s, hj, rfl, hM, hJ, hxj, hB⟩ := hrel
              have HM := Lib.hid hM
              have HB := Lib.hid hB
              have HJ := Lib.hid hJ
              have HX := Lib.hid hxj
              clear hM hB hJ hxj
              by_cases hlt : j < k
              · obtain ⟨b1, off, rfl, hbl, hcc⟩ := HO.out.2 (by omega)
                have hki : (j : Int) < k := by omega
                have hkk : (0 : Int) ≤ (j : Int) := by omega
                have hk2 : j < L.length := by rw [HL.out]; exact hlt
                have hh := hcc j hk2
                have HM6J := Lib.hid (HM6.out j hk2)
                generalize L[j] = o at hh HM6J
                obtain ⟨ok, oe, oA, om, oc, od, on, ob⟩ := o
                obtain ⟨q0, q1, q2, q3, q4, q5, q6⟩ := hh
                simp only at q0 q1 q2 q3 q4 q5 q6 HM6J
                have q0 := keepcell HB.out q0
                have q1 := keepcell HB.out q1
                have q2 := keepcell HB.out q2
                have q3 := keepcell HB.out q3
                have q4 := keepcell HB.out q4
                have hbw : b1 < wr.heap.size := Nat.lt_of_lt_of_le hbl HB.out.size
                have HBA := Lib.hid ((BA.of_at q5 HF.out).below HB.out)
                have HOK := Lib.hid q6
                have HDL := Lib.hid q5.1
                clear hcc q5 q6
                obtain ⟨W3, hW3⟩ : ∃ W, W = wr.alloc (.cells #[.int .u8 ok, .int .u32 (oe : Int), .slice oA om oc, .int .i64 on, .int .i64 ob] 38) := ⟨_, rfl⟩
                have hbel : Below wr.heap.size wr W3 := by rw [hW3]; exact (Below.refl _ wr).alloc (Nat.le_refl _) _
                have K3 := Lib.hid (show Blk W3 wr.heap.size 38 #[.int .u8 ok, .int .u32 (oe : Int), .slice oA om oc, .int .i64 on, .int .i64 ob] by rw [hW3]; exact Blk.new wr 38 _)
                have CD := Lib.hid (do_any W3 p q r t s (HM.out.below hbel) HJ.out (by have := HX.out; omega) ⟨ok, oe, oA, om, oc, od, on, ob⟩ HOK.out HM6J.out (HBA.out.below hbel))
                have HB3 := Lib.hid (HB.out.trans (hbel.mono HB.out.size))
                have HXN := Lib.hid (St.doM_x s ⟨ok, oe, oA, om, oc, od, on, ob⟩ (by show od.length ≤ 600; rw [HDL.out]; exact HM6J.out))
                have HJN := Lib.hid (HJ.out.doM ⟨ok, oe, oA, om, oc, od, on, ob⟩)
                simp only at CD
                generalize s.doM ⟨ok, oe, oA, om, oc, od, on, ob⟩ = s2 at *
                clear hbel HM
                go_upto_region 16 with fail
                rw [← hW3]
                clear hW3 q0 q1 q2 q3 q4
                have d0 : W3.cell? ⟨wr.heap.size, 0, none⟩ = some (.int .u8 ok) := K3.out.cell 0
                have d1 : W3.cell? ⟨wr.heap.size, 1, none⟩ = some (.int .u32 (oe : Int)) := K3.out.cell 1
                have d2 : W3.cell? ⟨wr.heap.size, 2, none⟩ = some (.slice oA om oc) := K3.out.cell 2
                have d3 : W3.cell? ⟨wr.heap.size, 3, none⟩ = some (.int .i64 on) := K3.out.cell 3
                have d4 : W3.cell? ⟨wr.heap.size, 4, none⟩ = some (.int .i64 ob) := K3.out.cell 4
                go_wp2_with fail
                refine CD.out.mono ?_
                rintro e v1 ⟨rfl, hm, hcg⟩
                have HM1 := Lib.hid hm
                have HB4 := Lib.hid (hcg.below HB3.out HF.out HB3.out.size)
                clear hm hcg CD d0 d1 d2 d3 d4
                go_wp2_with fail
                refine (same_any v1 p q r t s2 HM1.out HJN.out).mono ?_
                rintro e v2 ⟨rfl, hm, hcg⟩
                have HM2 := Lib.hid hm
                have HB5 := Lib.hid (hcg.below HB4.out HF.out HB4.out.size)
                clear hm hcg
                go_wp2
                go_roundw
                case rel => exact ⟨j + 1, s2, hlt, by go_num, HM2.out, HJN.out, by have := HX.out; have := HXN.out; omega, HB5.out⟩
                case measure => simp [intOf]; omega
              · obtain rfl : j = k := by omega
                have CD := Lib.hid (do_any wr p q r t s HM.out HJ.out (by have := HX.out; omega) ⟨9, 0, none, 0, 0, [], 0, 0⟩ ⟨by decide, by decide, by decide, by decide, by decide⟩ (by decide) ⟨rfl, fun h => absurd h (by decide)⟩)
                simp only at CD
                go_wp2_with fail
                refine CD.out.mono ?_
                rintro e v1 ⟨rfl, hm, hcg⟩
                have HB4 := Lib.hid (hcg.below HB.out HF.out HB.out.size)
                clear hm hcg CD
                go_wp2
                go_ret
                exact ⟨rfl, HB4.out⟩
end Go.Proofs.YthhpilkhcomhbaaDoor
