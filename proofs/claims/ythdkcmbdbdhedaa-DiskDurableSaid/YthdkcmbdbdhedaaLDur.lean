/- Law DiskDurable: for every input the call returns true, and its arguments read afterwards as before. -/
import Derived.Test.YthdkcmbdbdhedaaDls
import Derived.Deep.RegionHeld3
namespace Go.Proofs.Ythdkcmbdbdhedaa
open Go.ChangeShapes Go.WideShapes Go.ChangeAt Go.RowKit Go.ChangeMaps

theorem setpast8 {w : World} {b o c q : Nat} {v u : Value} (hne : b ≠ c) (h : w.cell? ⟨b, o, none⟩ = some v) : (w.setCell ⟨c, q, none⟩ u).cell? ⟨b, o, none⟩ = some v :=
  (World.cell?_setCell_other _ _ _ _ (by intro e; cases e; exact hne rfl)).trans h
theorem Ar_R (s : St) (a b : Int) : (s.Ar a b).R = s.R := by unfold St.Ar; split <;> rfl
theorem Ar_x (s : St) (a b : Int) : (s.Ar a b).x = s.x := by unfold St.Ar; split <;> rfl
theorem Fl_R (s : St) : s.Fl.R = s.R := rfl
theorem Fl_x (s : St) : s.Fl.x = s.x := rfl
theorem Re_R (s : St) : s.Re.R = s.R := rfl
theorem Re_x (s : St) : s.Re.x = s.x := rfl
theorem Wr_stay {s : St} {i : Int} {d : List UInt8} (h : s.f = true ∨ i < 0 ∨ 3 < i) (hR : s.R.length = 4) : (s.Wr i d).1 = s ∧ ((s.Wr i d).2 == 0) = false := by
  unfold St.Wr
  cases hf : s.f
  · rw [if_neg (by decide), if_neg (by rw [hR]; rw [hf] at h; rintro ⟨h1, h2, _⟩; rcases h with h | h | h; (· cases h); (· omega); omega)]
    exact ⟨rfl, rfl⟩
  · rw [if_pos rfl]
    exact ⟨rfl, rfl⟩
set_option maxRecDepth 100000 in
set_option maxHeartbeats 8000000 in
theorem diskDurable_walk (A : Option Addr) (n c : Nat) (L : List OpM) (w : World) (hr : OpsAt w A n L) (hn : n ≤ 9223372036854775807) :
    Calls Try.prog 6 #[.slice A n c] w fun e w' => e = .returned (.bool true) ∧ Below w.heap.size w w' := by
  obtain ⟨cs, hcs, hmk⟩ := make64
  have HCS := Lib.hid (show ∀ W : World, Blk (W.alloc (.cells cs 5)) W.heap.size 5 (bc zeros).toArray from fun W => by rw [hcs.out]; exact Blk.new _ _ _)
  have HL := Lib.hid hr.1
  have HO := Lib.hid hr
  clear hr hcs
  go_enter Try.func6, Try.ntmps6
  go_wp2_with fail
  refine (awake_any _).mono ?_
  rintro e w1 ⟨rfl, hb⟩
  have HW := Lib.hid hb
  clear hb
  rcases hfew : fewM L with _ | _
  · go_wp2_with fail
    refine (few_any w1 A n c L (HO.out.below HW.out) hn false hfew).mono ?_
    rintro e w2 ⟨rfl, hb⟩
    replace HW := Lib.hid (HW.out.trans (hb.mono HW.out.size))
    clear hb
    go_wp2_with fail
    refine (awake_any _).mono ?_
    rintro e w5 ⟨rfl, hb⟩
    replace HW := Lib.hid (HW.out.trans (hb.mono HW.out.size))
    clear hb
    go_wp2
    go_ret
    exact ⟨rfl, HW.out⟩
  · go_wp2_with fail
    refine (few_any w1 A n c L (HO.out.below HW.out) hn true hfew).mono ?_
    rintro e w2 ⟨rfl, hb⟩
    replace HW := Lib.hid (HW.out.trans (hb.mono HW.out.size))
    clear hb
    obtain ⟨hf1, hf2⟩ := fewM_of hfew
    have HF1 := Lib.hid hf1
    have hn60 : n ≤ 60 := by rw [← HL.out]; exact hf2
    clear hf1 hf2 hfew
    go_wp2_with fail
    have hw2 := HW.out.size
    refine (New_ok w2 4 (by decide) (by decide)).mono ?_
    rintro e w3 ⟨rfl, hd, hb⟩
    have HD := Lib.hid hd
    replace HW := Lib.hid (HW.out.trans (hb.mono HW.out.size))
    have hPQ : Hid (∀ k, PQ (w2.heap.size + 1) w2.heap.size k → w.heap.size ≤ k) := Lib.hid (fun k hk => by rcases hk with e | e <;> omega)
    clear hd hb hw2
    generalize w2.heap.size + 1 = p at *
    generalize w2.heap.size = q at *
    have hg0 := HW.out.size
    have hgPQ : Hid (¬ PQ p q w3.heap.size) := Lib.hid (HD.out.fresh (Nat.le_refl _))
    go_wp2
    have HG := Lib.hid (show LS (w3.alloc (.cells #[.slice none 0 0, .slice none 0 0, .slice none 0 0, .slice none 0 0] 46)) (FD p q w3.heap.size) w3.heap.size 0 (St.new 4).R from ⟨fun _ => none, Blk.new _ _ _, fun i hi => absurd hi (by omega)⟩)
    replace HD := Lib.hid (HD.out.below ((Below.refl _ w3).alloc (Nat.le_refl _) (.cells #[.slice none 0 0, .slice none 0 0, .slice none 0 0, .slice none 0 0] 46)))
    replace HW := Lib.hid (HW.out.alloc HW.out.size (.cells #[.slice none 0 0, .slice none 0 0, .slice none 0 0, .slice none 0 0] 46))
    have HGL : Hid (w3.heap.size < (w3.alloc (.cells #[.slice none 0 0, .slice none 0 0, .slice none 0 0, .slice none 0 0] 46)).heap.size) := Lib.hid (by simp)
    generalize w3.heap.size = g at *
    go_loopw [34] (fun i wr => ∃ k : Nat, k ≤ 4 ∧ i = .int .i64 (k : Int) ∧ Dk wr p q (St.new 4) ∧ LS wr (FD p q g) g k (St.new 4).R ∧ Below w.heap.size w wr ∧ g < wr.heap.size) (fun i _ => 4 - (intOf i).toNat)
    case atStart => exact ⟨0, by omega, rfl, HD.out, HG.out, HW.out, HGL.out⟩
    case round =>
      clear HD HG HGL
      obtain ⟨k, hk, rfl, hD, hG, hB, hgl⟩ := hrel
      have HD := Lib.hid hD
      have HG := Lib.hid hG
      have HW := Lib.hid hB
      have HGL := Lib.hid hgl
      clear hD hG hB hgl
      by_cases hlt : k < 4
      · have hki : (k : Int) < 4 := by omega
        have ha46 : Try.prog.arrayLen 46 = 4 := by kernel_rfl
        have hbel : Below wr.heap.size wr (wr.alloc (.cells cs 5)) := (Below.refl _ wr).alloc (Nat.le_refl _) _
        have HG2 := Lib.hid (HG.out.below hbel)
        have HD2 := Lib.hid (HD.out.below hbel)
        have HB2 := Lib.hid (HW.out.trans (hbel.mono HW.out.size))
        have hfr : ¬ FD p q g wr.heap.size := by
          intro e
          have h1 := HD.out.1.lt
          have h2 := HD.out.2.1.lt
          have h3 := HGL.out
          rcases e with e | e | e <;> omega
        have HBA := Lib.hid (ba_of_blk (F := FD p q g) (n := 64) (HCS.out wr) (by decide) hfr)
        obtain ⟨y, hy⟩ := HG2.out.there k hlt
        have hfz := HG2.out.free k
        have HG3 : Hid (LS ((wr.alloc (.cells cs 5)).setCell ⟨g, k, none⟩ (.slice (some ⟨wr.heap.size, 0, none⟩) 64 64)) (FD p q g) g (k + 1) (St.new 4).R) := by
          refine Lib.hid ?_
          have := HG2.out.set (by omega) k hlt (Nat.le_refl _) (by rfl) HBA.out
          rw [show max k (k + 1) = k + 1 by omega] at this
          have e : (St.new 4).R.set k zeros = (St.new 4).R := by
            match k, hlt with
            | 0, _ => rfl
            | 1, _ => rfl
            | 2, _ => rfl
            | 3, _ => rfl
          rw [e] at this
          exact this
        have hcc : Chg (fun b => b = g) (wr.alloc (.cells cs 5)) ((wr.alloc (.cells cs 5)).setCell ⟨g, k, none⟩ (.slice (some ⟨wr.heap.size, 0, none⟩) 64 64)) := (Chg.refl _ _).set_ rfl
        have HD3 := Lib.hid (HD2.out.chg hcc (fun e => hgPQ.out (.inl e.symm)) (fun e => hgPQ.out (.inr e.symm)))
        have HB3 := Lib.hid (hcc.below HB2.out (fun b e => by rw [e]; exact hg0) HB2.out.size)
        have HGL3 : Hid (g < ((wr.alloc (.cells cs 5)).setCell ⟨g, k, none⟩ (.slice (some ⟨wr.heap.size, 0, none⟩) 64 64)).heap.size) := Lib.hid (by simp [World.setCell]; have := HGL.out; omega)
        clear hbel hfr hcc
        go_wp2
        go_roundw
        case rel => exact ⟨k + 1, by omega, by go_num, HD3.out, HG3.out, HB3.out, HGL3.out⟩
        case measure => simp [intOf]; omega
      · obtain rfl : k = 4 := by omega
        go_wp2
        go_loopw [43] (fun i wr => ∃ (k : Nat) (s : St), k ≤ n ∧ i = .int .i64 (k : Int) ∧ Dk wr p q s ∧ s.R.length = 4 ∧ s.x ≤ k ∧ LS wr (FD p q g) g 4 s.R ∧ Below w.heap.size w wr ∧ g < wr.heap.size) (fun i _ => n - (intOf i).toNat)
        case atStart => exact ⟨0, St.new 4, by omega, rfl, HD.out, by rfl, by simp [St.new], HG.out, HW.out, HGL.out⟩
        case round =>
          clear HD HG HW HGL
          obtain ⟨k, s, hk, rfl, hD, hR4, hxk, hG, hB, hgl⟩ := hrel
          have HD := Lib.hid hD
          have HG := Lib.hid hG
          have HW := Lib.hid hB
          have HGL := Lib.hid hgl
          have HR4 := Lib.hid hR4
          have HX := Lib.hid hxk
          clear hD hG hB hgl hR4 hxk
          by_cases hlt : k < n
          · obtain ⟨ob, off, rfl, hbl, hcc⟩ := HO.out.2 (by omega)
            have hk2 : k < L.length := by rw [HL.out]; exact hlt
            have hh := hcc k hk2
            have hm := HF1.out _ (List.getElem_mem hk2)
            generalize L[k] = x at hh hm
            obtain ⟨kd, sc, nn, DA, dm, dc, dd⟩ := x
            obtain ⟨q0, q1, q2, q3, q4, q5, q6, q7, q8⟩ := hh
            have q0 : wr.cell? ⟨ob, off + k * 4, none⟩ = some (.int .i64 kd) := keepcell HW.out q0
            have q1 : wr.cell? ⟨ob, off + k * 4 + 1, none⟩ = some (.int .i64 sc) := keepcell HW.out q1
            have q2 : wr.cell? ⟨ob, off + k * 4 + 2, none⟩ = some (.int .i64 nn) := keepcell HW.out q2
            have q3 : wr.cell? ⟨ob, off + k * 4 + 3, none⟩ = some (.slice DA dm dc) := keepcell HW.out q3
            have HQ4 := Lib.hid q4
            have hsc : sc ≤ 9223372036854775807 := q5
            have hdm : dm ≤ 100 := hm
            have hdc : dc ≤ 9223372036854775807 := q7
            clear hcc q4 q5 q6 q7 q8 hm hk2
            have HP8 : Hid (¬ wr.heap.size ≤ p) := Lib.hid (by have := HD.out.1.lt; omega)
            have HQ8 : Hid (¬ wr.heap.size ≤ q) := Lib.hid (by have := HD.out.2.1.lt; omega)
            have hbel : Below wr.heap.size wr (wr.alloc (.cells #[.int .i64 kd, .int .i64 sc, .int .i64 nn, .slice DA dm dc] 48)) := (Below.refl _ wr).alloc (Nat.le_refl _) _
            replace HD := Lib.hid (HD.out.below hbel)
            replace HG := Lib.hid (HG.out.below hbel)
            have HO8 : Hid (¬ PQ p q wr.heap.size) := Lib.hid (fun e => by
              have h1 := HD.out.1.lt
              have h2 := HD.out.2.1.lt
              have h3 : (wr.alloc (.cells #[.int .i64 kd, .int .i64 sc, .int .i64 nn, .slice DA dm dc] 48)).heap.size = wr.heap.size + 1 := by simp
              rcases e with e | e
              · exact HP8.out (by rw [← e]; exact Nat.le_refl _)
              · exact HQ8.out (by rw [← e]; exact Nat.le_refl _))
            have HGO : Hid (wr.heap.size ≠ g ∧ w.heap.size ≤ wr.heap.size) := Lib.hid ⟨by have := HGL.out; omega, HW.out.size⟩
            replace HW := Lib.hid (HW.out.trans (hbel.mono HW.out.size))
            replace HGL := Lib.hid (Nat.lt_of_lt_of_le HGL.out hbel.size)
            have KO := Lib.hid (Blk.new wr 48 #[.int .i64 kd, .int .i64 sc, .int .i64 nn, .slice DA dm dc])
            clear hbel
            go_wp2_with fail
            generalize wr.alloc (.cells #[.int .i64 kd, .int .i64 sc, .int .i64 nn, .slice DA dm dc] 48) = v0 at *
            generalize wr.heap.size = o8 at *
            clear q0 q1 q2 q3
            refine (Failed_any v0 p q s HD.out).mono ?_
            rintro e v1 ⟨rfl, rfl⟩
            have a0 : v0.cell? ⟨o8, 0, none⟩ = some (.int .i64 kd) := KO.out.cell 0
            have a1 : v0.cell? ⟨o8, 1, none⟩ = some (.int .i64 sc) := KO.out.cell 1
            have a2 : v0.cell? ⟨o8, 2, none⟩ = some (.int .i64 nn) := KO.out.cell 2
            have a3 : v0.cell? ⟨o8, 3, none⟩ = some (.slice DA dm dc) := KO.out.cell 3
            by_cases k2 : kd = 2
            · subst k2
              go_wp2_with fail
              refine (Arm_any v0 p q s HD.out sc nn hsc).mono ?_
              rintro e v1 ⟨rfl, hd, hc⟩
              replace HW := Lib.hid (hc.below HW.out hPQ.out HW.out.size)
              replace HGL := Lib.hid (Nat.lt_of_lt_of_le HGL.out hc.size)
              replace HG := Lib.hid (HG.out.pq hc hgPQ.out)
              replace HD := Lib.hid hd
              clear hd hc
              go_wp2
              refine ⟨?_, ?measure⟩
              case measure => simp [intOf]; omega
              (repeat apply Exists.intro)
              refine ⟨?rel, rfl⟩
              case rel => exact ⟨k + 1, (s.Ar sc nn), by omega, by go_num, HD.out, by rw [Ar_R]; exact HR4.out, by rw [Ar_x]; have := HX.out; omega, by rw [Ar_R]; exact HG.out, HW.out, HGL.out⟩
            · by_cases k3 : kd = 3
              · subst k3
                go_wp2_with fail
                refine (Fail_any v0 p q s HD.out).mono ?_
                rintro e v1 ⟨rfl, hd, hc⟩
                replace HW := Lib.hid (hc.below HW.out hPQ.out HW.out.size)
                replace HGL := Lib.hid (Nat.lt_of_lt_of_le HGL.out hc.size)
                replace HG := Lib.hid (HG.out.pq hc hgPQ.out)
                replace HD := Lib.hid hd
                clear hd hc
                go_wp2
                refine ⟨?_, ?measure⟩
                case measure => simp [intOf]; omega
                (repeat apply Exists.intro)
                refine ⟨?rel, rfl⟩
                case rel => exact ⟨k + 1, s.Fl, by omega, by go_num, HD.out, by rw [Fl_R]; exact HR4.out, by rw [Fl_x]; have := HX.out; omega, by rw [Fl_R]; exact HG.out, HW.out, HGL.out⟩
              · by_cases k4 : kd = 4
                · subst k4
                  go_wp2_with fail
                  refine (Restart_any v0 p q s HD.out).mono ?_
                  rintro e v1 ⟨rfl, hd, hc⟩
                  replace HW := Lib.hid (hc.below HW.out hPQ.out HW.out.size)
                  replace HGL := Lib.hid (Nat.lt_of_lt_of_le HGL.out hc.size)
                  replace HG := Lib.hid (HG.out.pq hc hgPQ.out)
                  replace HD := Lib.hid hd
                  clear hd hc
                  go_wp2
                  refine ⟨?_, ?measure⟩
                  case measure => simp [intOf]; omega
                  (repeat apply Exists.intro)
                  refine ⟨?rel, rfl⟩
                  case rel => exact ⟨k + 1, s.Re, by omega, by go_num, HD.out, by rw [Re_R]; exact HR4.out, by rw [Re_x]; have := HX.out; omega, by rw [Re_R]; exact HG.out, HW.out, HGL.out⟩
                · have z2 : (kd == 2) = false := by simpa using k2
                  have z3 : (kd == 3) = false := by simpa using k3
                  have z4 : (kd == 4) = false := by simpa using k4
                  by_cases k1 : kd = 1
                  · subst k1
                    clear z2 z3 z4
                    go_wp2
                    refine ⟨?_, ?measure⟩
                    case measure => simp [intOf]; omega
                    (repeat apply Exists.intro)
                    refine ⟨?rel, rfl⟩
                    case rel => exact ⟨k + 1, s, by omega, by go_num, HD.out, HR4.out, by have := HX.out; omega, HG.out, HW.out, HGL.out⟩
                  · have z1 : (kd == 1) = false := by simpa using k1
                    clear k1 k2 k3 k4
                    by_cases hneg : sc < 0
                    · have SEC := Lib.hid (fun (W : World) (hW : Below v0.heap.size v0 W) => show Calls Try.prog 23 #[.slice DA dm dc] W (fun e w' => ∃ g2, e = .returned (.slice (some ⟨g2, 0, none⟩) 64 64) ∧ w'.cell? ⟨o8, 1, none⟩ = some (.int .i64 sc) ∧ w'.cell? ⟨o8, 3, none⟩ = some (.slice DA dm dc) ∧ Dk w' p q s ∧ BA (PQ p q) w' (some ⟨g2, 0, none⟩) 64 (sec64 dd) ∧ Below v0.heap.size v0 w') from (sector_any W DA dm dc dd (HQ4.out.below (HW.out.trans (hW.mono HW.out.size))) (by omega)).mono fun e w' ⟨h1, h2, h3⟩ =>
                        ⟨W.heap.size, h1, (KO.out.below (hW.trans (h3.mono hW.size))).cell 1, (KO.out.below (hW.trans (h3.mono hW.size))).cell 3, HD.out.below (hW.trans (h3.mono hW.size)), ba_of_blk h2 (sec64_len _) ((HD.out.below hW).fresh (Nat.le_refl _)), hW.trans (h3.mono hW.size)⟩)
                      have WRT := Lib.hid (fun (W : World) (g2 : Nat) (hW : Below v0.heap.size v0 W) (hd : Dk W p q s) (hb : BA (PQ p q) W (some ⟨g2, 0, none⟩) 64 (sec64 dd)) => show Calls Try.prog 22 #[.pointer (some ⟨p, 0, none⟩), .int .i64 sc, .slice (some ⟨g2, 0, none⟩) 64 64] W (fun e w' => e = .returned (.int .i64 (s.Wr sc (sec64 dd)).2) ∧ Dk w' p q (s.Wr sc (sec64 dd)).1 ∧ Chg (PQ p q) W w' ∧ w'.cell? ⟨o8, 1, none⟩ = some (.int .i64 sc) ∧ w'.cell? ⟨o8, 3, none⟩ = some (.slice DA dm dc)) from (Write_any W p q s hd (by have := HX.out; omega) sc (some ⟨g2, 0, none⟩) 64 64 (sec64 dd) hb (Nat.le_refl _)).mono fun e w' ⟨h1, h2, h3⟩ => ⟨h1, h2, h3, ((KO.out.below hW).chg h3 HO8.out).cell 1, ((KO.out.below hW).chg h3 HO8.out).cell 3⟩)
                      obtain ⟨e1, e2⟩ := Wr_stay (i := sc) (d := sec64 dd) (.inr (.inl hneg)) HR4.out
                      simp only [e1] at WRT
                      generalize (s.Wr sc (sec64 dd)).2 = cd at *
                      clear e1
                      go_wp2_with fail
                      go_region_held3 (fun w' => w'.cell? ⟨o8, 1, none⟩ = some (.int .i64 sc) ∧ w'.cell? ⟨o8, 3, none⟩ = some (.slice DA dm dc)) (first | exact ⟨a1, a3⟩ | exact ⟨b1, b3⟩ | exact ⟨d1, d3⟩) (first | (go_at_call 23; refine (SEC.out _ ?hh).mono ?_; (case hh => exact below_drew (Below.refl _ _)); rintro e v2 ⟨g2, rfl, b1, b3, hd2, hba, hb2⟩) | (go_at_call 22; refine (WRT.out _ _ hb2 hd2 hba).mono ?_; rintro e v3 ⟨rfl, hd3, hc3, d1, d3⟩))
                      all_goals
                        have hc : Chg (PQ p q) v0 v3 := (Chg.of_below hb2).trans hc3
                        replace HW := Lib.hid (hc.below HW.out hPQ.out HW.out.size)
                        replace HGL := Lib.hid (Nat.lt_of_lt_of_le HGL.out hc.size)
                        replace HG := Lib.hid (HG.out.pq hc hgPQ.out)
                        replace KO := Lib.hid (KO.out.chg hc HO8.out)
                        clear SEC WRT hd2 hba hb2 hc hc3 b1 b3 d1 d3 a0 a1 a2 a3
                        have a0 : v3.cell? ⟨o8, 0, none⟩ = some (.int .i64 kd) := KO.out.cell 0
                        have a1 : v3.cell? ⟨o8, 1, none⟩ = some (.int .i64 sc) := KO.out.cell 1
                        have a2 : v3.cell? ⟨o8, 2, none⟩ = some (.int .i64 nn) := KO.out.cell 2
                        have a3 : v3.cell? ⟨o8, 3, none⟩ = some (.slice DA dm dc) := KO.out.cell 3
                        replace HD := Lib.hid hd3
                        clear hd3
                        go_wp2
                        refine ⟨?_, ?measure⟩
                        case measure => simp [intOf]; omega
                        (repeat apply Exists.intro)
                        refine ⟨?rel, rfl⟩
                        case rel => exact ⟨k + 1, s, by omega, by go_num, HD.out, HR4.out, by have := HX.out; omega, HG.out, HW.out, HGL.out⟩
                    · by_cases hbig : 3 < sc
                      · have SEC := Lib.hid (fun (W : World) (hW : Below v0.heap.size v0 W) => show Calls Try.prog 23 #[.slice DA dm dc] W (fun e w' => ∃ g2, e = .returned (.slice (some ⟨g2, 0, none⟩) 64 64) ∧ w'.cell? ⟨o8, 1, none⟩ = some (.int .i64 sc) ∧ w'.cell? ⟨o8, 3, none⟩ = some (.slice DA dm dc) ∧ Dk w' p q s ∧ BA (PQ p q) w' (some ⟨g2, 0, none⟩) 64 (sec64 dd) ∧ Below v0.heap.size v0 w') from (sector_any W DA dm dc dd (HQ4.out.below (HW.out.trans (hW.mono HW.out.size))) (by omega)).mono fun e w' ⟨h1, h2, h3⟩ =>
                          ⟨W.heap.size, h1, (KO.out.below (hW.trans (h3.mono hW.size))).cell 1, (KO.out.below (hW.trans (h3.mono hW.size))).cell 3, HD.out.below (hW.trans (h3.mono hW.size)), ba_of_blk h2 (sec64_len _) ((HD.out.below hW).fresh (Nat.le_refl _)), hW.trans (h3.mono hW.size)⟩)
                        have WRT := Lib.hid (fun (W : World) (g2 : Nat) (hW : Below v0.heap.size v0 W) (hd : Dk W p q s) (hb : BA (PQ p q) W (some ⟨g2, 0, none⟩) 64 (sec64 dd)) => show Calls Try.prog 22 #[.pointer (some ⟨p, 0, none⟩), .int .i64 sc, .slice (some ⟨g2, 0, none⟩) 64 64] W (fun e w' => e = .returned (.int .i64 (s.Wr sc (sec64 dd)).2) ∧ Dk w' p q (s.Wr sc (sec64 dd)).1 ∧ Chg (PQ p q) W w' ∧ w'.cell? ⟨o8, 1, none⟩ = some (.int .i64 sc) ∧ w'.cell? ⟨o8, 3, none⟩ = some (.slice DA dm dc)) from (Write_any W p q s hd (by have := HX.out; omega) sc (some ⟨g2, 0, none⟩) 64 64 (sec64 dd) hb (Nat.le_refl _)).mono fun e w' ⟨h1, h2, h3⟩ => ⟨h1, h2, h3, ((KO.out.below hW).chg h3 HO8.out).cell 1, ((KO.out.below hW).chg h3 HO8.out).cell 3⟩)
                        obtain ⟨e1, e2⟩ := Wr_stay (i := sc) (d := sec64 dd) (.inr (.inr hbig)) HR4.out
                        simp only [e1] at WRT
                        generalize (s.Wr sc (sec64 dd)).2 = cd at *
                        clear e1
                        go_wp2_with fail
                        go_region_held3 (fun w' => w'.cell? ⟨o8, 1, none⟩ = some (.int .i64 sc) ∧ w'.cell? ⟨o8, 3, none⟩ = some (.slice DA dm dc)) (first | exact ⟨a1, a3⟩ | exact ⟨b1, b3⟩ | exact ⟨d1, d3⟩) (first | (go_at_call 23; refine (SEC.out _ ?hh).mono ?_; (case hh => exact below_drew (Below.refl _ _)); rintro e v2 ⟨g2, rfl, b1, b3, hd2, hba, hb2⟩) | (go_at_call 22; refine (WRT.out _ _ hb2 hd2 hba).mono ?_; rintro e v3 ⟨rfl, hd3, hc3, d1, d3⟩))
                        all_goals
                          have hc : Chg (PQ p q) v0 v3 := (Chg.of_below hb2).trans hc3
                          replace HW := Lib.hid (hc.below HW.out hPQ.out HW.out.size)
                          replace HGL := Lib.hid (Nat.lt_of_lt_of_le HGL.out hc.size)
                          replace HG := Lib.hid (HG.out.pq hc hgPQ.out)
                          replace KO := Lib.hid (KO.out.chg hc HO8.out)
                          clear SEC WRT hd2 hba hb2 hc hc3 b1 b3 d1 d3 a0 a1 a2 a3
                          have a0 : v3.cell? ⟨o8, 0, none⟩ = some (.int .i64 kd) := KO.out.cell 0
                          have a1 : v3.cell? ⟨o8, 1, none⟩ = some (.int .i64 sc) := KO.out.cell 1
                          have a2 : v3.cell? ⟨o8, 2, none⟩ = some (.int .i64 nn) := KO.out.cell 2
                          have a3 : v3.cell? ⟨o8, 3, none⟩ = some (.slice DA dm dc) := KO.out.cell 3
                          replace HD := Lib.hid hd3
                          clear hd3
                          go_wp2
                          refine ⟨?_, ?measure⟩
                          case measure => simp [intOf]; omega
                          (repeat apply Exists.intro)
                          refine ⟨?rel, rfl⟩
                          case rel => exact ⟨k + 1, s, by omega, by go_num, HD.out, HR4.out, by have := HX.out; omega, HG.out, HW.out, HGL.out⟩
                      · cases hf : s.f
                        · by_cases ha1 : s.a = 1
                          · have HRD := Lib.hid (getD_len64 HD.out.2.2.2.1 (i := sc.toNat) (by rw [HR4.out]; omega))
                            have HB64 := Lib.hid (show s.b ≤ 64 from HD.out.2.2.2.2.1)
                            obtain ⟨m, hsm⟩ : ∃ m : Nat, sc = (m : Int) := ⟨sc.toNat, by omega⟩
                            have hm4 : m < 4 := by omega
                            have SEC := Lib.hid (fun (W : World) (hW : Below v0.heap.size v0 W) => show Calls Try.prog 23 #[.slice DA dm dc] W (fun e w' => ∃ g2, e = .returned (.slice (some ⟨g2, 0, none⟩) 64 64) ∧ w'.cell? ⟨o8, 1, none⟩ = some (.int .i64 sc) ∧ w'.cell? ⟨o8, 3, none⟩ = some (.slice DA dm dc) ∧ Dk w' p q s ∧ BA (PQ p q) w' (some ⟨g2, 0, none⟩) 64 (sec64 dd) ∧ Below v0.heap.size v0 w') from (sector_any W DA dm dc dd (HQ4.out.below (HW.out.trans (hW.mono HW.out.size))) (by omega)).mono fun e w' ⟨h1, h2, h3⟩ =>
                              ⟨W.heap.size, h1, (KO.out.below (hW.trans (h3.mono hW.size))).cell 1, (KO.out.below (hW.trans (h3.mono hW.size))).cell 3, HD.out.below (hW.trans (h3.mono hW.size)), ba_of_blk h2 (sec64_len _) ((HD.out.below hW).fresh (Nat.le_refl _)), hW.trans (h3.mono hW.size)⟩)
                            have WRT := Lib.hid (fun (W : World) (g2 : Nat) (hW : Below v0.heap.size v0 W) (hd : Dk W p q s) (hb : BA (PQ p q) W (some ⟨g2, 0, none⟩) 64 (sec64 dd)) => show Calls Try.prog 22 #[.pointer (some ⟨p, 0, none⟩), .int .i64 sc, .slice (some ⟨g2, 0, none⟩) 64 64] W (fun e w' => e = .returned (.int .i64 (s.Wr sc (sec64 dd)).2) ∧ Dk w' p q (s.Wr sc (sec64 dd)).1 ∧ Chg (PQ p q) W w' ∧ w'.cell? ⟨o8, 1, none⟩ = some (.int .i64 sc) ∧ w'.cell? ⟨o8, 3, none⟩ = some (.slice DA dm dc)) from (Write_any W p q s hd (by have := HX.out; omega) sc (some ⟨g2, 0, none⟩) 64 64 (sec64 dd) hb (Nat.le_refl _)).mono fun e w' ⟨h1, h2, h3⟩ => ⟨h1, h2, h3, ((KO.out.below hW).chg h3 HO8.out).cell 1, ((KO.out.below hW).chg h3 HO8.out).cell 3⟩)
                            have ew : s.Wr sc (sec64 dd) = ({ s with R := s.R.set m ((sec64 dd).take s.b ++ (s.R.getD m []).drop s.b), f := true, a := 0 }, 15) := by
                              unfold St.Wr
                              rw [hf, if_neg (by decide), if_pos ⟨by omega, by rw [HR4.out]; omega, sec64_len _⟩]
                              unfold St.wr
                              rw [if_pos ha1, hsm, Int.toNat_natCast]
                            obtain ⟨S2, cd, hS⟩ : ∃ S2 cd, s.Wr sc (sec64 dd) = (S2, cd) := ⟨_, _, rfl⟩
                            rw [hS] at ew
                            simp only [hS] at WRT
                            have HEW := Lib.hid ew
                            have HSM := Lib.hid hsm
                            have hm4 : m < 4 := by omega
                            replace HRD : Hid ((s.R.getD m []).length = 64) := Lib.hid (by have := HRD.out; rw [hsm, Int.toNat_natCast] at this; exact this)
                            clear ew hf ha1 hS hsm hneg hbig
                            go_wp2_with fail
                            go_region_held3 (fun w' => w'.cell? ⟨o8, 1, none⟩ = some (.int .i64 sc) ∧ w'.cell? ⟨o8, 3, none⟩ = some (.slice DA dm dc)) (first | exact ⟨a1, a3⟩ | exact ⟨b1, b3⟩ | exact ⟨d1, d3⟩) (first | (go_at_call 23; refine (SEC.out _ ?hh).mono ?_; (case hh => exact below_drew (Below.refl _ _)); rintro e v2 ⟨g2, rfl, b1, b3, hd2, hba, hb2⟩) | (go_at_call 22; refine (WRT.out _ _ hb2 hd2 hba).mono ?_; rintro e v3 ⟨rfl, hd3, hc3, d1, d3⟩))
                            all_goals
                              have hc : Chg (PQ p q) v0 v3 := (Chg.of_below hb2).trans hc3
                              replace HW := Lib.hid (hc.below HW.out hPQ.out HW.out.size)
                              replace HGL := Lib.hid (Nat.lt_of_lt_of_le HGL.out hc.size)
                              replace HG := Lib.hid (HG.out.pq hc hgPQ.out)
                              replace KO := Lib.hid (KO.out.chg hc HO8.out)
                              clear SEC WRT hd2 hba hb2 hc hc3 b1 b3 d1 d3 a0 a1 a2 a3
                              have a0 : v3.cell? ⟨o8, 0, none⟩ = some (.int .i64 kd) := KO.out.cell 0
                              have a1 : v3.cell? ⟨o8, 1, none⟩ = some (.int .i64 sc) := KO.out.cell 1
                              have a2 : v3.cell? ⟨o8, 2, none⟩ = some (.int .i64 nn) := KO.out.cell 2
                              have a3 : v3.cell? ⟨o8, 3, none⟩ = some (.slice DA dm dc) := KO.out.cell 3
                              replace HD := Lib.hid hd3
                              clear hd3
                              have hsm := HSM.out
                              subst hsm
                              have hew := HEW.out
                              injection hew with hew1 hew2
                              subst hew1 hew2
                              clear HEW HSM
                              have hg1 : ¬ (m : Int) < 0 := by omega
                              have hg2 : ¬ 3 < (m : Int) := by omega
                              have hmi : (m : Int) < 4 := by omega
                              have hmi0 : (0 : Int) ≤ (m : Int) := by omega
                              have HTL : Hid (((sec64 dd).take s.b ++ (s.R.getD m []).drop s.b).length = 64) := Lib.hid (by rw [List.length_append, List.length_take, List.length_drop, sec64_len, HRD.out]; have := HB64.out; omega)
                              have HGT : Hid ((s.R.set m ((sec64 dd).take s.b ++ (s.R.getD m []).drop s.b)).getD m [] = (sec64 dd).take s.b ++ (s.R.getD m []).drop s.b) := Lib.hid (by rw [List.getD_eq_getElem?_getD, List.getElem?_set_self (by rw [HR4.out]; exact hm4)]; rfl)
                              have ha46 : Try.prog.arrayLen 46 = 4 := by kernel_rfl
                              go_wp2_with fail
                              refine (Restart_any v3 p q _ HD.out).mono ?_
                              rintro e v4 ⟨rfl, hd4, hc4⟩
                              replace HW := Lib.hid (hc4.below HW.out hPQ.out HW.out.size)
                              replace HGL := Lib.hid (Nat.lt_of_lt_of_le HGL.out hc4.size)
                              replace HG := Lib.hid (HG.out.pq hc4 hgPQ.out)
                              replace KO := Lib.hid (KO.out.chg hc4 HO8.out)
                              replace HD := Lib.hid hd4
                              clear hd4 hc4 a0 a1 a2 a3
                              have a1 : v4.cell? ⟨o8, 1, none⟩ = some (.int .i64 (m : Int)) := KO.out.cell 1
                              have CRD := Lib.hid (Read_ok v4 p q _ HD.out rfl m (by show m < (s.R.set m _).length; rw [List.length_set, HR4.out]; exact hm4))
                              go_wp2_with fail
                              refine CRD.out.mono ?_
                              rintro e v5 ⟨g5, rfl, hg5, hk5, hb5⟩
                              clear a1 CRD
                              have HBA5 := Lib.hid (ba_of_blk (F := FD p q g) (n := 64) hk5 (by show ((s.R.set m _).getD m []).length = 64; rw [HGT.out]; exact HTL.out) (fun e => by
                                have h4 := HGL.out
                                have h6 := HD.out.1.lt
                                have h7 := HD.out.2.1.lt
                                rcases e with e | e | e <;> omega))
                              replace HW := Lib.hid (HW.out.trans (hb5.mono HW.out.size))
                              replace HGL := Lib.hid (Nat.lt_of_lt_of_le HGL.out hb5.size)
                              replace HG := Lib.hid (HG.out.below hb5)
                              replace KO := Lib.hid (KO.out.below hb5)
                              replace HD := Lib.hid (HD.out.below hb5)
                              clear hk5 hb5 hg5
                              have a1 : v5.cell? ⟨o8, 1, none⟩ = some (.int .i64 (m : Int)) := KO.out.cell 1
                              have a3 : v5.cell? ⟨o8, 3, none⟩ = some (.slice DA dm dc) := KO.out.cell 3
                              obtain ⟨A9, hA9, hB9⟩ := HG.out.cell m hm4
                              have HB9 := Lib.hid hB9
                              clear hB9
                              have SE3 := Lib.hid (fun (W : World) (hW : Below v5.heap.size v5 W) => show Calls Try.prog 23 #[.slice DA dm dc] W (fun e w' => ∃ g2, e = .returned (.slice (some ⟨g2, 0, none⟩) 64 64) ∧ w'.cell? ⟨o8, 1, none⟩ = some (.int .i64 (m : Int)) ∧ w'.cell? ⟨o8, 3, none⟩ = some (.slice DA dm dc) ∧ w'.cell? ⟨g, m, none⟩ = some (.slice A9 64 64) ∧ BytesAt w' (some ⟨g2, 0, none⟩) 64 (sec64 dd) ∧ Below v5.heap.size v5 w') from (sector_any W DA dm dc dd (HQ4.out.below (HW.out.trans (hW.mono HW.out.size))) (by omega)).mono fun e w' ⟨h1, h2, h3⟩ => by
                                have hb := hW.trans (h3.mono hW.size)
                                exact ⟨W.heap.size, h1, (KO.out.below hb).cell 1, (KO.out.below hb).cell 3, keepcell hb hA9, bytes_of_blk h2 (sec64_len _), hb⟩)
                              have TRN := Lib.hid (fun (W : World) (g2 : Nat) (hW : Below v5.heap.size v5 W) (hb : BytesAt W (some ⟨g2, 0, none⟩) 64 (sec64 dd)) => torn_any W A9 (some ⟨g2, 0, none⟩) (some ⟨g5, 0, none⟩) (s.R.getD m []) (sec64 dd) s.b HB64.out (HB9.out.at.below hW) hb (by rw [← HGT.out]; exact HBA5.out.at.below hW))
                              go_wp2_with fail
                              go_region_held3 (fun w' => w'.cell? ⟨o8, 1, none⟩ = some (.int .i64 (m : Int)) ∧ w'.cell? ⟨o8, 3, none⟩ = some (.slice DA dm dc) ∧ w'.cell? ⟨g, m, none⟩ = some (.slice A9 64 64)) (first | exact ⟨a1, a3, hA9⟩ | exact ⟨b1, b3, b9⟩ | exact ⟨keepcell hb7 b1, keepcell hb7 b3, keepcell hb7 b9⟩) (first | (go_at_call 23; refine (SE3.out _ ?hh).mono ?_; (case hh => exact below_drew (Below.refl _ _)); rintro e v6 ⟨g6, rfl, b1, b3, b9, hba6, hb6⟩) | (go_at_call 25; refine (TRN.out _ _ hb6 hba6).mono ?_; rintro e v7 ⟨rfl, hb7⟩))
                              all_goals
                                have hbb := hb6.trans (hb7.mono hb6.size)
                                clear SE3 TRN hba6 hb6 hb7 b1 b3 b9
                                replace HW := Lib.hid (HW.out.trans (hbb.mono HW.out.size))
                                replace HGL := Lib.hid (Nat.lt_of_lt_of_le HGL.out hbb.size)
                                replace HG := Lib.hid (HG.out.below hbb)
                                replace KO := Lib.hid (KO.out.below hbb)
                                replace HD := Lib.hid (HD.out.below hbb)
                                replace HBA5 := Lib.hid (HBA5.out.below hbb)
                                have b1 : v7.cell? ⟨o8, 1, none⟩ = some (.int .i64 (m : Int)) := KO.out.cell 1
                                obtain ⟨y9, hy9⟩ := HG.out.there m hm4
                                have hz9 := HG.out.free m
                                have HG4 := Lib.hid (HG.out.set (by omega) m hm4 (by omega) HR4.out HBA5.out)
                                rw [show max 4 (m + 1) = 4 by omega] at HG4
                                have hcc : Chg (fun b => b = g) v7 (v7.setCell ⟨g, m, none⟩ (.slice (some ⟨g5, 0, none⟩) 64 64)) := (Chg.refl _ _).set_ rfl
                                have HD7 := Lib.hid (HD.out.chg hcc (fun e => hgPQ.out (.inl e.symm)) (fun e => hgPQ.out (.inr e.symm)))
                                have HW7 := Lib.hid (hcc.below HW.out (fun b e => by rw [e]; exact hg0) HW.out.size)
                                have HGL7 := Lib.hid (show g < (v7.setCell ⟨g, m, none⟩ (.slice (some ⟨g5, 0, none⟩) 64 64)).heap.size from by have h1 := HGL.out; simp [World.setCell]; omega)
                                have HG7 : Hid (LS (v7.setCell ⟨g, m, none⟩ (.slice (some ⟨g5, 0, none⟩) 64 64)) (FD p q g) g 4 (s.R.set m ((sec64 dd).take s.b ++ (s.R.getD m []).drop s.b))) := by
                                  refine Lib.hid ?_
                                  have h1 := HG4.out
                                  have h2 : (St.Re { s with R := s.R.set m ((sec64 dd).take s.b ++ (s.R.getD m []).drop s.b), f := true, a := 0 }).R.getD m [] = (sec64 dd).take s.b ++ (s.R.getD m []).drop s.b := HGT.out
                                  rw [h2] at h1
                                  exact h1
                                clear hcc hbb
                                go_wp2
                                refine ⟨?_, ?measure⟩
                                case measure => simp [intOf]; omega
                                (repeat apply Exists.intro)
                                refine ⟨?rel, rfl⟩
                                case rel => exact ⟨k + 1, _, by omega, by go_num, HD7.out, by simp [St.Re, HR4.out], by have := HX.out; simp [St.Re]; omega, HG7.out, HW7.out, HGL7.out⟩
                          · obtain ⟨m, hsm⟩ : ∃ m : Nat, sc = (m : Int) := ⟨sc.toNat, by omega⟩
                            have hm4 : m < 4 := by omega
                            have SEC := Lib.hid (fun (W : World) (hW : Below v0.heap.size v0 W) => show Calls Try.prog 23 #[.slice DA dm dc] W (fun e w' => ∃ g2, e = .returned (.slice (some ⟨g2, 0, none⟩) 64 64) ∧ w'.cell? ⟨o8, 1, none⟩ = some (.int .i64 sc) ∧ w'.cell? ⟨o8, 3, none⟩ = some (.slice DA dm dc) ∧ Dk w' p q s ∧ BA (PQ p q) w' (some ⟨g2, 0, none⟩) 64 (sec64 dd) ∧ Below v0.heap.size v0 w') from (sector_any W DA dm dc dd (HQ4.out.below (HW.out.trans (hW.mono HW.out.size))) (by omega)).mono fun e w' ⟨h1, h2, h3⟩ =>
                              ⟨W.heap.size, h1, (KO.out.below (hW.trans (h3.mono hW.size))).cell 1, (KO.out.below (hW.trans (h3.mono hW.size))).cell 3, HD.out.below (hW.trans (h3.mono hW.size)), ba_of_blk h2 (sec64_len _) ((HD.out.below hW).fresh (Nat.le_refl _)), hW.trans (h3.mono hW.size)⟩)
                            have WRT := Lib.hid (fun (W : World) (g2 : Nat) (hW : Below v0.heap.size v0 W) (hd : Dk W p q s) (hb : BA (PQ p q) W (some ⟨g2, 0, none⟩) 64 (sec64 dd)) => show Calls Try.prog 22 #[.pointer (some ⟨p, 0, none⟩), .int .i64 sc, .slice (some ⟨g2, 0, none⟩) 64 64] W (fun e w' => e = .returned (.int .i64 (s.Wr sc (sec64 dd)).2) ∧ Dk w' p q (s.Wr sc (sec64 dd)).1 ∧ Chg (PQ p q) W w' ∧ w'.cell? ⟨o8, 1, none⟩ = some (.int .i64 sc) ∧ w'.cell? ⟨o8, 3, none⟩ = some (.slice DA dm dc)) from (Write_any W p q s hd (by have := HX.out; omega) sc (some ⟨g2, 0, none⟩) 64 64 (sec64 dd) hb (Nat.le_refl _)).mono fun e w' ⟨h1, h2, h3⟩ => ⟨h1, h2, h3, ((KO.out.below hW).chg h3 HO8.out).cell 1, ((KO.out.below hW).chg h3 HO8.out).cell 3⟩)
                            have ew : s.Wr sc (sec64 dd) = ({ s with R := s.R.set m (sec64 dd), a := s.a - 1, x := s.x + 1 }, 0) := by
                              unfold St.Wr
                              rw [hf, if_neg (by decide), if_pos ⟨by omega, by rw [HR4.out]; omega, sec64_len _⟩]
                              unfold St.wr
                              rw [if_neg ha1, hsm, Int.toNat_natCast, hf]
                            obtain ⟨S2, cd, hS⟩ : ∃ S2 cd, s.Wr sc (sec64 dd) = (S2, cd) := ⟨_, _, rfl⟩
                            rw [hS] at ew
                            simp only [hS] at WRT
                            have HEW := Lib.hid ew
                            have HSM := Lib.hid hsm
                            have hm4 : m < 4 := by omega
                            clear ew hf ha1 hS hsm hneg hbig
                            go_wp2_with fail
                            go_region_held3 (fun w' => w'.cell? ⟨o8, 1, none⟩ = some (.int .i64 sc) ∧ w'.cell? ⟨o8, 3, none⟩ = some (.slice DA dm dc)) (first | exact ⟨a1, a3⟩ | exact ⟨b1, b3⟩ | exact ⟨d1, d3⟩) (first | (go_at_call 23; refine (SEC.out _ ?hh).mono ?_; (case hh => exact below_drew (Below.refl _ _)); rintro e v2 ⟨g2, rfl, b1, b3, hd2, hba, hb2⟩) | (go_at_call 22; refine (WRT.out _ _ hb2 hd2 hba).mono ?_; rintro e v3 ⟨rfl, hd3, hc3, d1, d3⟩))
                            all_goals
                              have hc : Chg (PQ p q) v0 v3 := (Chg.of_below hb2).trans hc3
                              replace HW := Lib.hid (hc.below HW.out hPQ.out HW.out.size)
                              replace HGL := Lib.hid (Nat.lt_of_lt_of_le HGL.out hc.size)
                              replace HG := Lib.hid (HG.out.pq hc hgPQ.out)
                              replace KO := Lib.hid (KO.out.chg hc HO8.out)
                              clear SEC WRT hd2 hba hb2 hc hc3 b1 b3 d1 d3 a0 a1 a2 a3
                              have a0 : v3.cell? ⟨o8, 0, none⟩ = some (.int .i64 kd) := KO.out.cell 0
                              have a1 : v3.cell? ⟨o8, 1, none⟩ = some (.int .i64 sc) := KO.out.cell 1
                              have a2 : v3.cell? ⟨o8, 2, none⟩ = some (.int .i64 nn) := KO.out.cell 2
                              have a3 : v3.cell? ⟨o8, 3, none⟩ = some (.slice DA dm dc) := KO.out.cell 3
                              replace HD := Lib.hid hd3
                              clear hd3
                              have hsm := HSM.out
                              subst hsm
                              have hew := HEW.out
                              injection hew with hew1 hew2
                              subst hew1 hew2
                              clear HEW HSM
                              have hg1 : ¬ (m : Int) < 0 := by omega
                              have hg2 : ¬ 3 < (m : Int) := by omega
                              have hmi : (m : Int) < 4 := by omega
                              have hmi0 : (0 : Int) ≤ (m : Int) := by omega
                              have SE2 := Lib.hid (fun (W : World) (hW : Below v3.heap.size v3 W) => show Calls Try.prog 23 #[.slice DA dm dc] W (fun e w' => ∃ g2 y, e = .returned (.slice (some ⟨g2, 0, none⟩) 64 64) ∧ w'.cell? ⟨o8, 1, none⟩ = some (.int .i64 (m : Int)) ∧ w'.cell? ⟨o8, 3, none⟩ = some (.slice DA dm dc) ∧ w'.cell? ⟨g, m, none⟩ = some y ∧ w'.frozen? ⟨g, m, none⟩ = false ∧ BA (FD p q g) w' (some ⟨g2, 0, none⟩) 64 (sec64 dd) ∧ Below v3.heap.size v3 w') from (sector_any W DA dm dc dd (HQ4.out.below (HW.out.trans (hW.mono HW.out.size))) (by omega)).mono fun e w' ⟨h1, h2, h3⟩ => by
                                have hb := hW.trans (h3.mono hW.size)
                                obtain ⟨y, hy⟩ := (HG.out.below hb).there m hm4
                                exact ⟨W.heap.size, y, h1, (KO.out.below hb).cell 1, (KO.out.below hb).cell 3, hy, (HG.out.below hb).free m, ba_of_blk h2 (sec64_len _) (fun e => by
                                  have h4 := HGL.out
                                  have h5 := hW.size
                                  have h6 := HD.out.1.lt
                                  have h7 := HD.out.2.1.lt
                                  rcases e with e | e | e <;> omega), hb⟩)
                              have ha46 : Try.prog.arrayLen 46 = 4 := by kernel_rfl
                              go_wp2_with fail
                              have hne8 := HGO.out.1
                              go_region_held3 (fun w' => w'.cell? ⟨o8, 1, none⟩ = some (.int .i64 (m : Int)) ∧ w'.cell? ⟨o8, 3, none⟩ = some (.slice DA dm dc)) (first | exact ⟨a1, a3⟩ | exact ⟨b1, b3⟩ | exact ⟨setpast8 hne8 b1, setpast8 hne8 b3⟩) (first | (go_at_call 23; refine (SE2.out _ ?hh).mono ?_; (case hh => exact below_drew (Below.refl _ _)); rintro e v4 ⟨g4, y4, rfl, b1, b3, hy4, hz4, hba4, hb4⟩))
                              all_goals
                                have HG4 := Lib.hid ((HG.out.below hb4).set (by omega) m hm4 (by omega) HR4.out hba4)
                                rw [show max 4 (m + 1) = 4 by omega] at HG4
                                have hcc : Chg (fun b => b = g) v4 (v4.setCell ⟨g, m, none⟩ (.slice (some ⟨g4, 0, none⟩) 64 64)) := (Chg.refl _ _).set_ rfl
                                replace HD := Lib.hid ((HD.out.below hb4).chg hcc (fun e => hgPQ.out (.inl e.symm)) (fun e => hgPQ.out (.inr e.symm)))
                                replace HW := Lib.hid (HW.out.trans (hb4.mono HW.out.size))
                                replace HW := Lib.hid (hcc.below HW.out (fun b e => by rw [e]; exact hg0) HW.out.size)
                                replace HGL := Lib.hid (show g < (v4.setCell ⟨g, m, none⟩ (.slice (some ⟨g4, 0, none⟩) 64 64)).heap.size from by have h1 := HGL.out; have h2 := hb4.size; simp [World.setCell]; omega)
                                clear SE2 hcc hb4 hba4 hy4 hz4 b1 b3
                                go_wp2
                                refine ⟨?_, ?measure⟩
                                case measure => simp [intOf]; omega
                                (repeat apply Exists.intro)
                                refine ⟨?rel, rfl⟩
                                case rel => exact ⟨k + 1, _, by omega, by go_num, HD.out, by simp [HR4.out], by have := HX.out; simp; omega, HG4.out, HW.out, HGL.out⟩
                        · have SEC := Lib.hid (fun (W : World) (hW : Below v0.heap.size v0 W) => show Calls Try.prog 23 #[.slice DA dm dc] W (fun e w' => ∃ g2, e = .returned (.slice (some ⟨g2, 0, none⟩) 64 64) ∧ w'.cell? ⟨o8, 1, none⟩ = some (.int .i64 sc) ∧ w'.cell? ⟨o8, 3, none⟩ = some (.slice DA dm dc) ∧ Dk w' p q s ∧ BA (PQ p q) w' (some ⟨g2, 0, none⟩) 64 (sec64 dd) ∧ Below v0.heap.size v0 w') from (sector_any W DA dm dc dd (HQ4.out.below (HW.out.trans (hW.mono HW.out.size))) (by omega)).mono fun e w' ⟨h1, h2, h3⟩ =>
                            ⟨W.heap.size, h1, (KO.out.below (hW.trans (h3.mono hW.size))).cell 1, (KO.out.below (hW.trans (h3.mono hW.size))).cell 3, HD.out.below (hW.trans (h3.mono hW.size)), ba_of_blk h2 (sec64_len _) ((HD.out.below hW).fresh (Nat.le_refl _)), hW.trans (h3.mono hW.size)⟩)
                          have WRT := Lib.hid (fun (W : World) (g2 : Nat) (hW : Below v0.heap.size v0 W) (hd : Dk W p q s) (hb : BA (PQ p q) W (some ⟨g2, 0, none⟩) 64 (sec64 dd)) => show Calls Try.prog 22 #[.pointer (some ⟨p, 0, none⟩), .int .i64 sc, .slice (some ⟨g2, 0, none⟩) 64 64] W (fun e w' => e = .returned (.int .i64 (s.Wr sc (sec64 dd)).2) ∧ Dk w' p q (s.Wr sc (sec64 dd)).1 ∧ Chg (PQ p q) W w' ∧ w'.cell? ⟨o8, 1, none⟩ = some (.int .i64 sc) ∧ w'.cell? ⟨o8, 3, none⟩ = some (.slice DA dm dc)) from (Write_any W p q s hd (by have := HX.out; omega) sc (some ⟨g2, 0, none⟩) 64 64 (sec64 dd) hb (Nat.le_refl _)).mono fun e w' ⟨h1, h2, h3⟩ => ⟨h1, h2, h3, ((KO.out.below hW).chg h3 HO8.out).cell 1, ((KO.out.below hW).chg h3 HO8.out).cell 3⟩)
                          obtain ⟨e1, e2⟩ := Wr_stay (i := sc) (d := sec64 dd) (.inl hf) HR4.out
                          simp only [e1] at WRT
                          generalize (s.Wr sc (sec64 dd)).2 = cd at *
                          clear e1
                          go_wp2_with fail
                          go_region_held3 (fun w' => w'.cell? ⟨o8, 1, none⟩ = some (.int .i64 sc) ∧ w'.cell? ⟨o8, 3, none⟩ = some (.slice DA dm dc)) (first | exact ⟨a1, a3⟩ | exact ⟨b1, b3⟩ | exact ⟨d1, d3⟩) (first | (go_at_call 23; refine (SEC.out _ ?hh).mono ?_; (case hh => exact below_drew (Below.refl _ _)); rintro e v2 ⟨g2, rfl, b1, b3, hd2, hba, hb2⟩) | (go_at_call 22; refine (WRT.out _ _ hb2 hd2 hba).mono ?_; rintro e v3 ⟨rfl, hd3, hc3, d1, d3⟩))
                          all_goals
                            have hc : Chg (PQ p q) v0 v3 := (Chg.of_below hb2).trans hc3
                            replace HW := Lib.hid (hc.below HW.out hPQ.out HW.out.size)
                            replace HGL := Lib.hid (Nat.lt_of_lt_of_le HGL.out hc.size)
                            replace HG := Lib.hid (HG.out.pq hc hgPQ.out)
                            replace KO := Lib.hid (KO.out.chg hc HO8.out)
                            clear SEC WRT hd2 hba hb2 hc hc3 b1 b3 d1 d3 a0 a1 a2 a3
                            have a0 : v3.cell? ⟨o8, 0, none⟩ = some (.int .i64 kd) := KO.out.cell 0
                            have a1 : v3.cell? ⟨o8, 1, none⟩ = some (.int .i64 sc) := KO.out.cell 1
                            have a2 : v3.cell? ⟨o8, 2, none⟩ = some (.int .i64 nn) := KO.out.cell 2
                            have a3 : v3.cell? ⟨o8, 3, none⟩ = some (.slice DA dm dc) := KO.out.cell 3
                            replace HD := Lib.hid hd3
                            clear hd3
                            go_wp2
                            refine ⟨?_, ?measure⟩
                            case measure => simp [intOf]; omega
                            (repeat apply Exists.intro)
                            refine ⟨?rel, rfl⟩
                            case rel => exact ⟨k + 1, s, by omega, by go_num, HD.out, HR4.out, by have := HX.out; omega, HG.out, HW.out, HGL.out⟩
          · obtain rfl : k = n := by omega
            go_wp2_with fail
            refine (Restart_any wr p q s HD.out).mono ?_
            rintro e v0 ⟨rfl, hd, hc⟩
            replace HW := Lib.hid (hc.below HW.out hPQ.out HW.out.size)
            replace HG := Lib.hid (HG.out.pq hc hgPQ.out)
            replace HD := Lib.hid hd
            clear hd hc HGL
            go_wp2
            go_loopw [138] (fun i wx => ∃ j : Nat, j ≤ 4 ∧ i = .int .i64 (j : Int) ∧ Dk wx p q s.Re ∧ LS wx (FD p q g) g 4 s.R ∧ Below w.heap.size w wx) (fun i _ => 4 - (intOf i).toNat)
            case atStart => exact ⟨0, by omega, rfl, HD.out, HG.out, HW.out⟩
            case round =>
              clear HD HG HW
              obtain ⟨j, hj, rfl, hD, hG, hB⟩ := hrel
              have HD := Lib.hid hD
              have HG := Lib.hid hG
              have HW := Lib.hid hB
              clear hD hG hB
              by_cases hj4 : j < 4
              · have hji : (j : Int) < 4 := by omega
                have ha46 : Try.prog.arrayLen 46 = 4 := by kernel_rfl
                have CRD := Lib.hid (Read_ok wr p q _ HD.out rfl j (by show j < s.R.length; rw [HR4.out]; exact hj4))
                go_wp2_with fail
                refine CRD.out.mono ?_
                rintro e v5 ⟨g5, rfl, hg5, hk5, hb5⟩
                have HBA5 := Lib.hid (bytes_of_blk (n := 64) hk5 (getD_len64 HD.out.2.2.2.1 (by show j < s.R.length; rw [HR4.out]; exact hj4)))
                replace HW := Lib.hid (HW.out.trans (hb5.mono HW.out.size))
                replace HG := Lib.hid (HG.out.below hb5)
                replace HD := Lib.hid (HD.out.below hb5)
                clear hk5 hb5 hg5 CRD
                obtain ⟨A9, hA9, hB9⟩ := HG.out.cell j hj4
                have HB9 := Lib.hid hB9.at
                clear hB9
                go_wp2_with fail
                refine (Same_any v5 _ _ 64 64 64 64 _ _ HBA5.out HB9.out true (by simp [St.Re])).mono ?_
                rintro e v6 ⟨rfl, rfl⟩
                go_wp2
                go_roundw
                case rel => exact ⟨j + 1, by omega, by go_num, HD.out, HG.out, HW.out⟩
                case measure => simp [intOf]; omega
              · obtain rfl : j = 4 := by omega
                go_wp2
                go_ret
                exact ⟨rfl, HW.out⟩

set_option maxRecDepth 100000 in
theorem diskDurable_lifted (os : Os) (started : os.Started) (H : Type) (enc : TypeId × Value → H) :
    ReturnsInHanded {} Try.checked os 6 .any (Rows.diskDurableSpec.pre6 enc Try.prog Try.f6 Rows.diskDurableRow.domain false) (Rows.diskDurableSpec.post enc Try.prog Try.f6 false true false false) := by
  refine law_lifted (C := Try.checked) (B := 4) Try.own started (by kernel_rfl) Try.func6
    (ChangeSpec.witness6 (enc := enc) (C := Try.checked) false ⟨#[], #[.slice none 0 0], []⟩ 8 (by kernel_rfl) (by kernel_rfl) (by kernel_rfl) (by kernel_rfl))
    Try.laidOut (by kernel_rfl) rfl rfl rfl Try.underlying4 (fun ds h => match ds, h with | [_], _ => rfl) ?_
  intro W base args ds ps hval hA hlt hsz
  rw [Try.params6] at hA hval hsz
  obtain ⟨v0, vs0, d0, ds0, p0, q0, hargs, rfl, rfl, h0, r0⟩ := trodAll_cons hA
  obtain ⟨rfl, rfl, rfl⟩ := trodAll_nil r0
  obtain rfl : args = #[v0] := by cases args; simp_all
  obtain ⟨A0, n0, c0, R0, rfl, k0, l0⟩ := open_Ops (hval 0 22 v0 rfl rfl) h0 (fun x hx => hlt x (by simp [hx]))
  exact diskDurable_walk A0 n0 c0 R0 W k0 l0

theorem diskDurable_over : Rows.diskDurableRow.holds Try.pinned (OpenSpec.ofChange Rows.diskDurableSpec) :=
  OpenClaim.holds_of_wide 6 Try.f6 rfl rfl rfl rfl rfl rfl rfl ⟨rfl, rfl, rfl, rfl, rfl⟩ rfl rfl rfl rfl rfl (by kernel_rfl) Try.func6 (by kernel_rfl)
    (of_decide_eq_true (by kernel_rfl)) (by unfold Func.isWrapper; first | (rw [if_pos (by decide +kernel)]; kernel_rfl) | (rw [if_neg (by decide +kernel)]; exact ⟨rfl, rfl⟩))
    (fun os started H enc _ => diskDurable_lifted os started H enc)

theorem diskDurable_proved : Rows.DiskDurableSaid := diskDurable_over
end Go.Proofs.Ythdkcmbdbdhedaa
