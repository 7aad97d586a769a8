/- The sum of two lists of digits. -/
import Derived.Test.YtndkcimdbidgaaaDoorBtr
namespace Go.Proofs.YtndkcimdbidgaaaDoor
open Go.ChangeShapes Go.WideShapes Go.ChangeAt Go.RowKit Go.ChangeMaps

set_option maxRecDepth 100000 in
set_option maxHeartbeats 4000000 in
theorem add_any (A : Option Addr) (n c : Nat) (D : List Nat) (A2 : Option Addr) (m c2 : Nat) (E : List Nat) (w : World) (h : DG w A n D) (h2 : DG w A2 m E) (hn : n ≤ 100000) (hm : m ≤ 100000) :
    Calls Tryd.prog 50 #[.slice A n c, .slice A2 m c2] w fun e w' => ∃ g R, e = .returned (.slice (some ⟨g, 0, none⟩) R.length R.length) ∧ Blk w' g 47 (dc R) ∧ w.heap.size ≤ g ∧ dok 4294967296 R ∧ dv 4294967296 R = dv 4294967296 D + dv 4294967296 E ∧ R.length = max n m + 1 ∧ Below w.heap.size w w' := by
  have HA := Lib.hid h.at
  have HL := Lib.hid h.1
  have HD := Lib.hid h.2.1
  have HA2 := Lib.hid h2.at
  have HL2 := Lib.hid h2.1
  have HD2 := Lib.hid h2.2.1
  clear h h2
  by_cases hlt : n < m
  · have hlti : (n : Int) < m := by omega
    go_enter Tryd.func50, Tryd.ntmps50
    have hmk := make32 (m + 1) (by omega) w
    have hcast : ((m + 1 : Nat) : Int) = (m : Int) + 1 := by omega
    rw [hcast] at hmk
    clear hcast
    obtain ⟨W0, hW0⟩ : ∃ W, W = w.alloc (.cells (dc (List.replicate (m + 1) 0)) 47) := ⟨_, rfl⟩
    rw [← hW0] at hmk
    have HB0 := Lib.hid (show Below w.heap.size w W0 by rw [hW0]; exact (Below.refl _ w).alloc (Nat.le_refl _) _)
    have HK0 := Lib.hid (show Blk W0 w.heap.size 47 (dc (List.replicate (m + 1) 0)) by rw [hW0]; exact Blk.new _ _ _)
    clear hW0
    go_wp2
    clear hmk
    obtain ⟨g, hg⟩ : ∃ g, w.heap.size = g := ⟨_, rfl⟩
    have HG := Lib.hid (show w.heap.size ≤ g by omega)
    rw [hg] at HK0 ⊢
    clear hg
    go_loopw [6, 21] (fun s6 s21 wr => ∃ (i c : Nat) (R : List Nat), s6 = .int .u64 (c : Int) ∧ s21 = .int .i64 (i : Int) ∧ i ≤ m ∧ c ≤ 1 ∧ R.length = m + 1 ∧ dok 4294967296 R ∧ dv 4294967296 (R.take i) + 4294967296 ^ i * c = dv 4294967296 (E.take i) + dv 4294967296 (D.take i) ∧ Blk wr g 47 (dc R) ∧ Below w.heap.size w wr) (fun _ s21 _ => m - (intOf s21).toNat)
    case atStart => exact ⟨0, 0, _, rfl, rfl, Nat.zero_le _, by decide, by simp, dok_rep (by decide) _, by simp [dv], HK0.out, HB0.out⟩
    case round =>
      obtain ⟨i, c, R, rfl, rfl, hin, hc, hRl, hRd, hinv, hblk, hb⟩ := hrel
      have HI := Lib.hid hinv
      have HR := Lib.hid hRd
      have HK := Lib.hid hblk
      have HBW := Lib.hid hb
      have HRL := Lib.hid hRl
      clear hinv hRd hblk hb hRl HK0 HB0
      by_cases hlt : i < m
      · have hlti : (i : Int) < m := by omega
        have hltr : (i : Int) < (((m + 1 : Nat)) : Int) := by omega
        obtain ⟨d, hd⟩ : ∃ d, E[i]? = some d := ⟨_, List.getElem?_eq_getElem (by have := HL2.out; omega)⟩
        have hdB := dok_at HD2.out hd
        obtain ⟨b, off, eA, hbl, hcell⟩ := HA2.out (by omega)
        have c0 := hcell wr HBW.out i d hd
        have HDt := Lib.hid (show E.getD i 0 = d by simp [List.getD, hd])
        have hcI : (c : Int) ≤ 1 := by omega
        have hdI : (d : Int) < 4294967296 := by omega
        obtain ⟨o, ho⟩ : ∃ o, R[i]? = some o := ⟨_, List.getElem?_eq_getElem (by have := HRL.out; omega)⟩
        have c9 : wr.cell? ⟨g, i, none⟩ = some (.int .u32 (o : Int)) := (HK.out.cell _).trans (dc_get ho)
        have f9 : wr.frozen? ⟨g, i, none⟩ = false := Joins.unfrozen_of_block HK.out _
        have HN := Lib.hid (fun e (he : D.getD i 0 = e) (heB : e < 4294967296) (x y : Int) (hx : x = (((c + d + e) / 4294967296 : Nat) : Int)) (hy : y = (((c + d + e) % 4294967296 : Nat) : Int)) => show ∃ (i' c' : Nat) (R' : List Nat), Value.int .u64 x = .int .u64 (c' : Int) ∧ Value.int .i64 ((i : Int) + 1) = .int .i64 (i' : Int) ∧ i' ≤ m ∧ c' ≤ 1 ∧ R'.length = m + 1 ∧ dok 4294967296 R' ∧ dv 4294967296 (R'.take i') + 4294967296 ^ i' * c' = dv 4294967296 (E.take i') + dv 4294967296 (D.take i') ∧ Blk (wr.setCell ⟨g, i, none⟩ (.int .u32 y)) g 47 (dc R') ∧ Below w.heap.size w (wr.setCell ⟨g, i, none⟩ (.int .u32 y)) from by
          subst hx hy
          have hrl := HRL.out
          refine ⟨i + 1, (c + d + e) / 4294967296, R.set i ((c + d + e) % 4294967296), rfl, by go_num, by omega, by omega, by rw [List.length_set]; exact hrl, dok_set HR.out _ _ (Nat.mod_lt _ (by decide)), add_round R E D i c d e (by omega) HDt.out he HI.out, ?_, ?_⟩
          · rw [← dc_set]; exact (store_step HK.out i _).1
          · exact (store_step HK.out i _).2.2 _ _ HBW.out HG.out)
        clear hcell hd ho
        rw [eA]
        clear eA
        by_cases hlm : i < n
        · have hlmi : (i : Int) < n := by omega
          obtain ⟨e, he⟩ : ∃ e, D[i]? = some e := ⟨_, List.getElem?_eq_getElem (by have := HL.out; omega)⟩
          have heB := dok_at HD.out he
          obtain ⟨b2, off2, eB, hbl2, hcell2⟩ := HA.out (by omega)
          have c1 := hcell2 wr HBW.out i e he
          have heI : (e : Int) < 4294967296 := by omega
          clear hcell2
          rw [eB]
          clear eB
          have HEt := Lib.hid (show D.getD i 0 = e by simp [List.getD, he])
          clear he
          go_wp2
          go_roundw
          case rel => exact HN.out e HEt.out heB _ _ (by omega) (by omega)
          case measure => simp only [intOf]; rw [show ((i : Int) + 1).toNat = i + 1 by omega]; omega
        · have hlmi : ¬ (i : Int) < n := by omega
          have HEt := Lib.hid (show D.getD i 0 = 0 by simp [List.getD, List.getElem?_eq_none_iff.2 (by have := HL.out; omega : D.length ≤ i)])
          go_wp2
          go_roundw
          case rel => exact HN.out 0 HEt.out (by decide) _ _ (by omega) (by omega)
          case measure => simp only [intOf]; rw [show ((i : Int) + 1).toNat = i + 1 by omega]; omega
      · have hlti : ¬ (i : Int) < m := by omega
        obtain rfl : m = i := by omega
        have hltr : (m : Int) < (((m + 1 : Nat)) : Int) := by omega
        have hcI : (c : Int) ≤ 1 := by omega
        obtain ⟨o, ho⟩ : ∃ o, R[m]? = some o := ⟨_, List.getElem?_eq_getElem (by have := HRL.out; omega)⟩
        have c9 : wr.cell? ⟨g, m, none⟩ = some (.int .u32 (o : Int)) := (HK.out.cell _).trans (dc_get ho)
        have f9 : wr.frozen? ⟨g, m, none⟩ = false := Joins.unfrozen_of_block HK.out _
        have HRL2 := Lib.hid (show (R.set m c).length = m + 1 by rw [List.length_set]; exact HRL.out)
        clear ho
        go_wp2
        go_ret
        refine ⟨g, R.set m c, ?_, ?_, HG.out, dok_set HR.out _ _ (by omega), by have := add_done R E D m c HRL.out HL2.out (by have := HL.out; omega) HI.out; omega, ?_, (store_step HK.out m _).2.2 _ _ HBW.out HG.out⟩
        · rw [HRL2.out]; rfl
        · rw [← dc_set]; exact (store_step HK.out m _).1
        · rw [HRL2.out]; omega
  · have hlti : ¬ (n : Int) < m := by omega
    go_enter Tryd.func50, Tryd.ntmps50
    have hmk := make32 (n + 1) (by omega) w
    have hcast : ((n + 1 : Nat) : Int) = (n : Int) + 1 := by omega
    rw [hcast] at hmk
    clear hcast
    obtain ⟨W0, hW0⟩ : ∃ W, W = w.alloc (.cells (dc (List.replicate (n + 1) 0)) 47) := ⟨_, rfl⟩
    rw [← hW0] at hmk
    have HB0 := Lib.hid (show Below w.heap.size w W0 by rw [hW0]; exact (Below.refl _ w).alloc (Nat.le_refl _) _)
    have HK0 := Lib.hid (show Blk W0 w.heap.size 47 (dc (List.replicate (n + 1) 0)) by rw [hW0]; exact Blk.new _ _ _)
    clear hW0
    go_wp2
    clear hmk
    obtain ⟨g, hg⟩ : ∃ g, w.heap.size = g := ⟨_, rfl⟩
    have HG := Lib.hid (show w.heap.size ≤ g by omega)
    rw [hg] at HK0 ⊢
    clear hg
    go_loopw [6, 21] (fun s6 s21 wr => ∃ (i c : Nat) (R : List Nat), s6 = .int .u64 (c : Int) ∧ s21 = .int .i64 (i : Int) ∧ i ≤ n ∧ c ≤ 1 ∧ R.length = n + 1 ∧ dok 4294967296 R ∧ dv 4294967296 (R.take i) + 4294967296 ^ i * c = dv 4294967296 (D.take i) + dv 4294967296 (E.take i) ∧ Blk wr g 47 (dc R) ∧ Below w.heap.size w wr) (fun _ s21 _ => n - (intOf s21).toNat)
    case atStart => exact ⟨0, 0, _, rfl, rfl, Nat.zero_le _, by decide, by simp, dok_rep (by decide) _, by simp [dv], HK0.out, HB0.out⟩
    case round =>
      obtain ⟨i, c, R, rfl, rfl, hin, hc, hRl, hRd, hinv, hblk, hb⟩ := hrel
      have HI := Lib.hid hinv
      have HR := Lib.hid hRd
      have HK := Lib.hid hblk
      have HBW := Lib.hid hb
      have HRL := Lib.hid hRl
      clear hinv hRd hblk hb hRl HK0 HB0
      by_cases hlt : i < n
      · have hlti : (i : Int) < n := by omega
        have hltr : (i : Int) < (((n + 1 : Nat)) : Int) := by omega
        obtain ⟨d, hd⟩ : ∃ d, D[i]? = some d := ⟨_, List.getElem?_eq_getElem (by have := HL.out; omega)⟩
        have hdB := dok_at HD.out hd
        obtain ⟨b, off, eA, hbl, hcell⟩ := HA.out (by omega)
        have c0 := hcell wr HBW.out i d hd
        have HDt := Lib.hid (show D.getD i 0 = d by simp [List.getD, hd])
        have hcI : (c : Int) ≤ 1 := by omega
        have hdI : (d : Int) < 4294967296 := by omega
        obtain ⟨o, ho⟩ : ∃ o, R[i]? = some o := ⟨_, List.getElem?_eq_getElem (by have := HRL.out; omega)⟩
        have c9 : wr.cell? ⟨g, i, none⟩ = some (.int .u32 (o : Int)) := (HK.out.cell _).trans (dc_get ho)
        have f9 : wr.frozen? ⟨g, i, none⟩ = false := Joins.unfrozen_of_block HK.out _
        have HN := Lib.hid (fun e (he : E.getD i 0 = e) (heB : e < 4294967296) (x y : Int) (hx : x = (((c + d + e) / 4294967296 : Nat) : Int)) (hy : y = (((c + d + e) % 4294967296 : Nat) : Int)) => show ∃ (i' c' : Nat) (R' : List Nat), Value.int .u64 x = .int .u64 (c' : Int) ∧ Value.int .i64 ((i : Int) + 1) = .int .i64 (i' : Int) ∧ i' ≤ n ∧ c' ≤ 1 ∧ R'.length = n + 1 ∧ dok 4294967296 R' ∧ dv 4294967296 (R'.take i') + 4294967296 ^ i' * c' = dv 4294967296 (D.take i') + dv 4294967296 (E.take i') ∧ Blk (wr.setCell ⟨g, i, none⟩ (.int .u32 y)) g 47 (dc R') ∧ Below w.heap.size w (wr.setCell ⟨g, i, none⟩ (.int .u32 y)) from by
          subst hx hy
          have hrl := HRL.out
          refine ⟨i + 1, (c + d + e) / 4294967296, R.set i ((c + d + e) % 4294967296), rfl, by go_num, by omega, by omega, by rw [List.length_set]; exact hrl, dok_set HR.out _ _ (Nat.mod_lt _ (by decide)), add_round R D E i c d e (by omega) HDt.out he HI.out, ?_, ?_⟩
          · rw [← dc_set]; exact (store_step HK.out i _).1
          · exact (store_step HK.out i _).2.2 _ _ HBW.out HG.out)
        clear hcell hd ho
        rw [eA]
        clear eA
        by_cases hlm : i < m
        · have hlmi : (i : Int) < m := by omega
          obtain ⟨e, he⟩ : ∃ e, E[i]? = some e := ⟨_, List.getElem?_eq_getElem (by have := HL2.out; omega)⟩
          have heB := dok_at HD2.out he
          obtain ⟨b2, off2, eB, hbl2, hcell2⟩ := HA2.out (by omega)
          have c1 := hcell2 wr HBW.out i e he
          have heI : (e : Int) < 4294967296 := by omega
          clear hcell2
          rw [eB]
          clear eB
          have HEt := Lib.hid (show E.getD i 0 = e by simp [List.getD, he])
          clear he
          go_wp2
          go_roundw
          case rel => exact HN.out e HEt.out heB _ _ (by omega) (by omega)
          case measure => simp only [intOf]; rw [show ((i : Int) + 1).toNat = i + 1 by omega]; omega
        · have hlmi : ¬ (i : Int) < m := by omega
          have HEt := Lib.hid (show E.getD i 0 = 0 by simp [List.getD, List.getElem?_eq_none_iff.2 (by have := HL2.out; omega : E.length ≤ i)])
          go_wp2
          go_roundw
          case rel => exact HN.out 0 HEt.out (by decide) _ _ (by omega) (by omega)
          case measure => simp only [intOf]; rw [show ((i : Int) + 1).toNat = i + 1 by omega]; omega
      · have hlti : ¬ (i : Int) < n := by omega
        obtain rfl : n = i := by omega
        have hltr : (n : Int) < (((n + 1 : Nat)) : Int) := by omega
        have hcI : (c : Int) ≤ 1 := by omega
        obtain ⟨o, ho⟩ : ∃ o, R[n]? = some o := ⟨_, List.getElem?_eq_getElem (by have := HRL.out; omega)⟩
        have c9 : wr.cell? ⟨g, n, none⟩ = some (.int .u32 (o : Int)) := (HK.out.cell _).trans (dc_get ho)
        have f9 : wr.frozen? ⟨g, n, none⟩ = false := Joins.unfrozen_of_block HK.out _
        have HRL2 := Lib.hid (show (R.set n c).length = n + 1 by rw [List.length_set]; exact HRL.out)
        clear ho
        go_wp2
        go_ret
        refine ⟨g, R.set n c, ?_, ?_, HG.out, dok_set HR.out _ _ (by omega), by have := add_done R D E n c HRL.out HL.out (by have := HL2.out; omega) HI.out; omega, ?_, (store_step HK.out n _).2.2 _ _ HBW.out HG.out⟩
        · rw [HRL2.out]; rfl
        · rw [← dc_set]; exact (store_step HK.out n _).1
        · rw [HRL2.out]; omega
end Go.Proofs.YtndkcimdbidgaaaDoor
