/- The difference of two lists of digits. -/
import Derived.Test.YtndkcimdbidgaaaDoorBtr
namespace Go.Proofs.YtndkcimdbidgaaaDoor
open Go.ChangeShapes Go.WideShapes Go.ChangeAt Go.RowKit Go.ChangeMaps

set_option maxRecDepth 100000 in
set_option maxHeartbeats 4000000 in
theorem sub_any (A : Option Addr) (n c : Nat) (D : List Nat) (A2 : Option Addr) (m c2 : Nat) (E : List Nat) (w : World) (h : DG w A n D) (h2 : DG w A2 m E) (hn : n ≤ 100000) (hmn : m ≤ n) (hle : dv 4294967296 E ≤ dv 4294967296 D) :
    Calls Tryd.prog 52 #[.slice A n c, .slice A2 m c2] w fun e w' => ∃ g R, e = .returned (.slice (some ⟨g, 0, none⟩) R.length R.length) ∧ Blk w' g 47 (dc R) ∧ w.heap.size ≤ g ∧ dok 4294967296 R ∧ dv 4294967296 R + dv 4294967296 E = dv 4294967296 D ∧ R.length = n ∧ Below w.heap.size w w' := by
  have HA := Lib.hid h.at
  have HL := Lib.hid h.1
  have HD := Lib.hid h.2.1
  have HA2 := Lib.hid h2.at
  have HL2 := Lib.hid h2.1
  have HD2 := Lib.hid h2.2.1
  have HLE := Lib.hid hle
  clear h h2 hle
  have hmk := make32 n (by omega) w
  obtain ⟨W0, hW0⟩ : ∃ W, W = w.alloc (.cells (dc (List.replicate n 0)) 47) := ⟨_, rfl⟩
  rw [← hW0] at hmk
  have HB0 := Lib.hid (show Below w.heap.size w W0 by rw [hW0]; exact (Below.refl _ w).alloc (Nat.le_refl _) _)
  have HK0 := Lib.hid (show Blk W0 w.heap.size 47 (dc (List.replicate n 0)) by rw [hW0]; exact Blk.new _ _ _)
  clear hW0
  go_enter Tryd.func52, Tryd.ntmps52
  go_wp2
  clear hmk
  obtain ⟨g, hg⟩ : ∃ g, w.heap.size = g := ⟨_, rfl⟩
  have HG := Lib.hid (show w.heap.size ≤ g by omega)
  rw [hg] at HK0 ⊢
  clear hg
  go_loopw [6, 14] (fun s6 s14 wr => ∃ (i c : Nat) (R : List Nat), s6 = .int .u64 (c : Int) ∧ s14 = .int .i64 (i : Int) ∧ i ≤ n ∧ c ≤ 1 ∧ R.length = n ∧ dok 4294967296 R ∧ dv 4294967296 (R.take i) + dv 4294967296 (E.take i) = dv 4294967296 (D.take i) + 4294967296 ^ i * c ∧ Blk wr g 47 (dc R) ∧ Below w.heap.size w wr) (fun _ s14 _ => n - (intOf s14).toNat)
  case atStart => exact ⟨0, 0, _, rfl, rfl, Nat.zero_le _, by decide, by simp, dok_rep (by decide) _, by simp [dv], HK0.out, HB0.out⟩
  case round =>
    obtain ⟨i, c, R, rfl, rfl, hin, hc, hRl, hRd, hinv, hblk, hb⟩ := hrel
    have HI := Lib.hid hinv
    have HR := Lib.hid hRd
    have HK := Lib.hid hblk
    have HBW := Lib.hid hb
    have HRL := Lib.hid hRl
    clear hinv hRd hblk hb hRl HK0 HB0
    by_cases hlt : i < n
    · have hlti : (i : Int) < n := by omega
      obtain ⟨d, hd⟩ : ∃ d, D[i]? = some d := ⟨_, List.getElem?_eq_getElem (by have := HL.out; omega)⟩
      have hdB := dok_at HD.out hd
      obtain ⟨b, off, eA, hbl, hcell⟩ := HA.out (by omega)
      have c0 := hcell wr HBW.out i d hd
      have HDt := Lib.hid (show D.getD i 0 = d by simp [List.getD, hd])
      have hcI : (c : Int) ≤ 1 := by omega
      have hdI : (d : Int) < 4294967296 := by omega
      obtain ⟨o, ho⟩ : ∃ o, R[i]? = some o := ⟨_, List.getElem?_eq_getElem (by have := HRL.out; omega)⟩
      have c9 : wr.cell? ⟨g, i, none⟩ = some (.int .u32 (o : Int)) := (HK.out.cell _).trans (dc_get ho)
      have f9 : wr.frozen? ⟨g, i, none⟩ = false := Joins.unfrozen_of_block HK.out _
      have HN := Lib.hid (fun e (he : E.getD i 0 = e) (s' c' : Nat) (x y : Int) (hx : x = (c' : Int)) (hy : y = (s' : Int)) (hs : s' + e + c = d + 4294967296 * c') (hs2 : s' < 4294967296) (hc' : c' ≤ 1) => show ∃ (i' c' : Nat) (R' : List Nat), Value.int .u64 x = .int .u64 (c' : Int) ∧ Value.int .i64 ((i : Int) + 1) = .int .i64 (i' : Int) ∧ i' ≤ n ∧ c' ≤ 1 ∧ R'.length = n ∧ dok 4294967296 R' ∧ dv 4294967296 (R'.take i') + dv 4294967296 (E.take i') = dv 4294967296 (D.take i') + 4294967296 ^ i' * c' ∧ Blk (wr.setCell ⟨g, i, none⟩ (.int .u32 y)) g 47 (dc R') ∧ Below w.heap.size w (wr.setCell ⟨g, i, none⟩ (.int .u32 y)) from by
        subst hx hy
        have hrl := HRL.out
        refine ⟨i + 1, c', R.set i s', rfl, by go_num, by omega, hc', by rw [List.length_set]; exact hrl, dok_set HR.out _ _ hs2, sub_round R D E i c d e s' c' (by omega) HDt.out he hs HI.out, ?_, ?_⟩
        · rw [← dc_set]; exact (store_step HK.out i _).1
        · exact (store_step HK.out i _).2.2 _ _ HBW.out HG.out)
      clear hcell hd ho
      rw [eA]
      clear eA
      by_cases hlm : i < m
      · have hlmi : (i : Int) < m := by omega
        obtain ⟨e, he⟩ : ∃ e, E[i]? = some e := ⟨_, List.getElem?_eq_getElem (by have := HL2.out; omega)⟩
        have heB := dok_at HD2.out he
        obtain ⟨b2, off2, eB, hbl2, hcell2⟩ := HA2.out (by omega)
        have c1 := hcell2 wr HBW.out i e he
        have heI : (e : Int) < 4294967296 := by omega
        have HEt := Lib.hid (show E.getD i 0 = e by simp [List.getD, he])
        clear hcell2 he
        rw [eB]
        clear eB
        go_wp2
        go_roundw
        case rel =>
          by_cases ht : c + e ≤ d
          · exact HN.out e HEt.out (d - c - e) 0 _ _ (by simp only [IntKind.wrap_u64]; omega) (by simp only [IntKind.wrap_u64]; omega) (by omega) (by omega) (by decide)
          · exact HN.out e HEt.out (d + 4294967296 - c - e) 1 _ _ (by simp only [IntKind.wrap_u64]; omega) (by simp only [IntKind.wrap_u64]; omega) (by omega) (by omega) (by decide)
        case measure => simp only [intOf]; rw [show ((i : Int) + 1).toNat = i + 1 by omega]; omega
      · have hlmi : ¬ (i : Int) < m := by omega
        have HEt := Lib.hid (show E.getD i 0 = 0 by simp [List.getD, List.getElem?_eq_none_iff.2 (by have := HL2.out; omega : E.length ≤ i)])
        go_wp2
        go_roundw
        case rel =>
          by_cases ht : c ≤ d
          · exact HN.out 0 HEt.out (d - c) 0 _ _ (by simp only [IntKind.wrap_u64]; omega) (by simp only [IntKind.wrap_u64]; omega) (by omega) (by omega) (by decide)
          · exact HN.out 0 HEt.out (d + 4294967296 - c) 1 _ _ (by simp only [IntKind.wrap_u64]; omega) (by simp only [IntKind.wrap_u64]; omega) (by omega) (by omega) (by decide)
        case measure => simp only [intOf]; rw [show ((i : Int) + 1).toNat = i + 1 by omega]; omega
    · have hlti : ¬ (i : Int) < n := by omega
      obtain rfl : n = i := by omega
      have h0 := HI.out
      rw [List.take_of_length_le (show R.length ≤ n by rw [HRL.out]; exact Nat.le_refl _), List.take_of_length_le (show D.length ≤ n by rw [HL.out]; exact Nat.le_refl _), List.take_of_length_le (show E.length ≤ n by rw [HL2.out]; exact hmn)] at h0
      have h1 := dv_lt (by decide) R HR.out
      rw [HRL.out] at h1
      have hc0 : c = 0 := by
        rcases Nat.lt_or_ge c 1 with g | g
        · omega
        · obtain rfl : c = 1 := by omega
          have := HLE.out
          rw [Nat.mul_one] at h0
          omega
      have HF := Lib.hid (show dv 4294967296 R + dv 4294967296 E = dv 4294967296 D by rw [hc0] at h0; omega)
      clear h0 h1 hc0
      go_wp2
      go_ret
      refine ⟨g, R, ?_, HK.out, HG.out, HR.out, HF.out, HRL.out, HBW.out⟩
      rw [HRL.out]; rfl
end Go.Proofs.YtndkcimdbidgaaaDoor
