/- The product of two lists of digits. -/
import Derived.Test.YtndkcimdbidgaaaDoorBtr
namespace Go.Proofs.YtndkcimdbidgaaaDoor
open Go.ChangeShapes Go.WideShapes Go.ChangeAt Go.RowKit Go.ChangeMaps

theorem mul_round {B : Nat} (R R' E : List Nat) (i j c x y o t s c' : Nat) (ho : R'[i + j]? = some o) (hy : E.getD j 0 = y) (ht : t = c + (x * y + o)) (hs : s = t % B) (hc : c' = t / B) (h : dv B R' + B ^ (i + j) * c = dv B R + B ^ i * x * dv B (E.take j)) :
    dv B (R'.set (i + j) s) + B ^ (i + (j + 1)) * c' = dv B R + B ^ i * x * dv B (E.take (j + 1)) := by
  have h1 := dv_set (B := B) R' (i + j) s o ho
  rw [dv_take_getD, hy]
  subst hs hc
  have h2 := Nat.mod_add_div t B
  have h3 : B ^ (i + j) * (t % B) + B ^ (i + (j + 1)) * (t / B) = B ^ (i + j) * t := by
    rw [show i + (j + 1) = (i + j) + 1 by omega, Nat.pow_succ, Nat.mul_assoc, ← Nat.mul_add, h2]
  have h4 : B ^ (i + j) * t = B ^ (i + j) * c + (B ^ (i + j) * (x * y) + B ^ (i + j) * o) := by rw [ht, Nat.mul_add, Nat.mul_add]
  have h5 : B ^ i * x * (dv B (E.take j) + B ^ j * y) = B ^ i * x * dv B (E.take j) + B ^ (i + j) * (x * y) := by
    rw [Nat.mul_add, Nat.pow_add]
    congr 1
    simp only [Nat.mul_assoc, Nat.mul_left_comm, Nat.mul_comm]
  rw [h5]
  omega
set_option maxRecDepth 100000 in
set_option maxHeartbeats 4000000 in
theorem mul_any (A : Option Addr) (n c : Nat) (D : List Nat) (A2 : Option Addr) (m c2 : Nat) (E : List Nat) (w : World) (h : DG w A n D) (h2 : DG w A2 m E) (hn : n ≤ 100000) (hm : m ≤ 100000) :
    Calls Tryd.prog 56 #[.slice A n c, .slice A2 m c2] w fun e w' => ∃ g R, e = .returned (.slice (some ⟨g, 0, none⟩) R.length R.length) ∧ Blk w' g 47 (dc R) ∧ w.heap.size ≤ g ∧ dok 4294967296 R ∧ dv 4294967296 R = dv 4294967296 D * dv 4294967296 E ∧ R.length = n + m ∧ Below w.heap.size w w' := by
  have HA := Lib.hid h.at
  have HL := Lib.hid h.1
  have HD := Lib.hid h.2.1
  have HA2 := Lib.hid h2.at
  have HL2 := Lib.hid h2.1
  have HD2 := Lib.hid h2.2.1
  clear h h2
  obtain ⟨N, hN⟩ : ∃ N, N = n + m := ⟨_, rfl⟩
  have hnm : (n : Int) + (m : Int) = (N : Int) := by omega
  have hmk := make32 N (by omega) w
  obtain ⟨W0, hW0⟩ : ∃ W, W = w.alloc (.cells (dc (List.replicate N 0)) 47) := ⟨_, rfl⟩
  rw [← hW0] at hmk
  have HB0 := Lib.hid (show Below w.heap.size w W0 by rw [hW0]; exact (Below.refl _ w).alloc (Nat.le_refl _) _)
  have HK0 := Lib.hid (show Blk W0 w.heap.size 47 (dc (List.replicate N 0)) by rw [hW0]; exact Blk.new _ _ _)
  have HN := Lib.hid hN
  rw [← hN]
  clear hW0 hN
  go_enter Tryd.func56, Tryd.ntmps56
  go_wp2
  clear hmk hnm
  obtain ⟨g, hg⟩ : ∃ g, w.heap.size = g := ⟨_, rfl⟩
  have HG := Lib.hid (show w.heap.size ≤ g by omega)
  rw [hg] at HK0 ⊢
  clear hg
  go_loopw [19] (fun s19 wr => ∃ (i : Nat) (R : List Nat), s19 = .int .i64 (i : Int) ∧ i ≤ n ∧ R.length = N ∧ dok 4294967296 R ∧ (∀ (k d : Nat), i + m ≤ k → R[k]? = some d → d = 0) ∧ dv 4294967296 R = dv 4294967296 (D.take i) * dv 4294967296 E ∧ Blk wr g 47 (dc R) ∧ Below w.heap.size w wr) (fun s19 _ => n - (intOf s19).toNat)
  case atStart => exact ⟨0, _, rfl, Nat.zero_le _, by simp, dok_rep (by decide) _, fun k d _ hd => by rw [List.getElem?_replicate] at hd; split at hd <;> simp_all, by simp [dv, dv_zeros], HK0.out, HB0.out⟩
  case round =>
    obtain ⟨i, R, rfl, hin, hRl, hRd, hz, hinv, hblk, hb⟩ := hrel
    have HI := Lib.hid hinv
    have HR := Lib.hid hRd
    have HZ := Lib.hid hz
    have HK := Lib.hid hblk
    have HBW := Lib.hid hb
    have HRL := Lib.hid hRl
    clear hinv hRd hz hblk hb hRl HK0 HB0
    by_cases hlt : i < n
    · have hlti : (i : Int) < n := by omega
      obtain ⟨x, hx⟩ : ∃ d, D[i]? = some d := ⟨_, List.getElem?_eq_getElem (by have := HL.out; omega)⟩
      have hxB := dok_at HD.out hx
      obtain ⟨b, off, eA, hbl, hcell⟩ := HA.out (by omega)
      have c0 := hcell wr HBW.out i x hx
      have HDt := Lib.hid (show D.getD i 0 = x by simp [List.getD, hx])
      have hxI : (x : Int) < 4294967296 := by omega
      clear hcell hx
      have HAE := Lib.hid eA
      rw [eA]
      clear eA
      go_wp2
      obtain ⟨wq, hwq⟩ : ∃ v, v = wr := ⟨_, rfl⟩
      rw [← hwq] at HK HBW c0 ⊢
      clear hwq
      go_loopw [8, 26] (fun s8 s26 wr => ∃ (j c : Nat) (R' : List Nat), s8 = .int .u64 (c : Int) ∧ s26 = .int .i64 (j : Int) ∧ j ≤ m ∧ c < 4294967296 ∧ R'.length = N ∧ dok 4294967296 R' ∧ (∀ (k d : Nat), i + m ≤ k → R'[k]? = some d → d = 0) ∧ dv 4294967296 R' + 4294967296 ^ (i + j) * c = dv 4294967296 R + 4294967296 ^ i * x * dv 4294967296 (E.take j) ∧ Blk wr g 47 (dc R') ∧ Below w.heap.size w wr) (fun _ s26 _ => m - (intOf s26).toNat)
      case atStart => exact ⟨0, 0, R, rfl, rfl, Nat.zero_le _, by decide, HRL.out, HR.out, HZ.out, by simp [dv], HK.out, HBW.out⟩
      case round =>
        obtain ⟨j, c, R', rfl, rfl, hjm, hc, hRl', hRd', hz', hinv', hblk', hb'⟩ := hrel
        have HI' := Lib.hid hinv'
        have HR' := Lib.hid hRd'
        have HZ' := Lib.hid hz'
        have HK' := Lib.hid hblk'
        have HB' := Lib.hid hb'
        have HRL' := Lib.hid hRl'
        clear hinv' hRd' hz' hblk' hb' hRl' HK HBW c0
        by_cases hlm : j < m
        · have hlmi : (j : Int) < m := by omega
          obtain ⟨y, hy⟩ : ∃ d, E[j]? = some d := ⟨_, List.getElem?_eq_getElem (by have := HL2.out; omega)⟩
          have hyB := dok_at HD2.out hy
          obtain ⟨b2, off2, eB, hbl2, hcell2⟩ := HA2.out (by omega)
          have c1 := hcell2 wr HB'.out j y hy
          have HEt := Lib.hid (show E.getD j 0 = y by simp [List.getD, hy])
          obtain ⟨k, hk⟩ : ∃ k, k = i + j := ⟨_, rfl⟩
          have hkN : k < N := by have := HN.out; omega
          have hkNi : (k : Int) < N := by omega
          have hijk : (i : Int) + (j : Int) = (k : Int) := by omega
          obtain ⟨o, ho⟩ : ∃ o, R'[k]? = some o := ⟨_, List.getElem?_eq_getElem (by have := HRL'.out; omega)⟩
          have hoB := dok_at HR'.out ho
          have c9 : wr.cell? ⟨g, k, none⟩ = some (.int .u32 (o : Int)) := (HK'.out.cell _).trans (dc_get ho)
          have f9 : wr.frozen? ⟨g, k, none⟩ = false := Joins.unfrozen_of_block HK'.out _
          obtain ⟨p, hp⟩ : ∃ p, p = x * y := ⟨_, rfl⟩
          have hpB : p ≤ 18446744065119617025 := by
            rw [hp]
            exact Nat.le_trans (Nat.mul_le_mul (by omega : x ≤ 4294967295) (by omega : y ≤ 4294967295)) (by decide)
          have hpI : (x : Int) * (y : Int) = (p : Int) := by rw [hp]; simp
          have hpb : (p : Int) ≤ 18446744065119617025 := by omega
          have hcI : (c : Int) ≤ 4294967295 := by omega
          have hoI : (o : Int) ≤ 4294967295 := by omega
          have hyI : (y : Int) < 4294967296 := by omega
          have HP := Lib.hid hp
          have HKk := Lib.hid hk
          have HO := Lib.hid ho
          have hbk : R'.length = N := HRL'.out
          have HNx := Lib.hid (show ∀ (u v : Int), u = (((c + (p + o)) / 4294967296 : Nat) : Int) → v = (((c + (p + o)) % 4294967296 : Nat) : Int) → ∃ (j' c' : Nat) (R'' : List Nat), Value.int .u64 u = .int .u64 (c' : Int) ∧ Value.int .i64 ((j : Int) + 1) = .int .i64 (j' : Int) ∧ j' ≤ m ∧ c' < 4294967296 ∧ R''.length = N ∧ dok 4294967296 R'' ∧ (∀ (k d : Nat), i + m ≤ k → R''[k]? = some d → d = 0) ∧ dv 4294967296 R'' + 4294967296 ^ (i + j') * c' = dv 4294967296 R + 4294967296 ^ i * x * dv 4294967296 (E.take j') ∧ Blk (wr.setCell ⟨g, k, none⟩ (.int .u32 v)) g 47 (dc R'') ∧ Below w.heap.size w (wr.setCell ⟨g, k, none⟩ (.int .u32 v)) from by
            intro u v hu hv
            subst hu hv
            refine ⟨j + 1, (c + (p + o)) / 4294967296, R'.set k ((c + (p + o)) % 4294967296), rfl, by go_num, by omega, by omega, by rw [List.length_set]; exact hbk, dok_set HR'.out _ _ (Nat.mod_lt _ (by decide)), fun q d hq hd => ?_, ?_, ?_, ?_⟩
            · rw [List.getElem?_set_ne (by omega)] at hd
              exact HZ'.out q d hq hd
            · have ho' := HO.out
              rw [HKk.out] at ho' ⊢
              exact mul_round R R' E i j c x y o (c + (p + o)) _ _ ho' HEt.out (by rw [HP.out]) rfl rfl HI'.out
            · rw [← dc_set]; exact (store_step HK'.out k _).1
            · exact (store_step HK'.out k _).2.2 _ _ HB'.out HG.out)
          clear hcell2 hy ho hk hp hbk
          rw [eB]
          clear eB
          go_wp2
          go_roundw
          case rel => exact HNx.out _ _ (by omega) (by omega)
          case measure => simp only [intOf]; rw [show ((j : Int) + 1).toNat = j + 1 by omega]; omega
        · have hlmi : ¬ (j : Int) < m := by omega
          obtain rfl : m = j := by omega
          obtain ⟨k, hk⟩ : ∃ k, k = i + m := ⟨_, rfl⟩
          have hkN : k < N := by have := HN.out; omega
          have hkNi : (k : Int) < N := by omega
          have hijk : (i : Int) + (m : Int) = (k : Int) := by omega
          have hcI : (c : Int) < 4294967296 := by omega
          obtain ⟨o, ho⟩ : ∃ o, R'[k]? = some o := ⟨_, List.getElem?_eq_getElem (by have := HRL'.out; omega)⟩
          have ho0 : o = 0 := HZ'.out k o (by omega) ho
          subst ho0
          have c9 : wr.cell? ⟨g, k, none⟩ = some (.int .u32 ((0 : Nat) : Int)) := (HK'.out.cell _).trans (dc_get ho)
          have f9 : wr.frozen? ⟨g, k, none⟩ = false := Joins.unfrozen_of_block HK'.out _
          have HO := Lib.hid ho
          have HKk := Lib.hid hk
          have HNx := Lib.hid (show ∃ (i' : Nat) (R'' : List Nat), Value.int .i64 ((i : Int) + 1) = .int .i64 (i' : Int) ∧ i' ≤ n ∧ R''.length = N ∧ dok 4294967296 R'' ∧ (∀ (k d : Nat), i' + m ≤ k → R''[k]? = some d → d = 0) ∧ dv 4294967296 R'' = dv 4294967296 (D.take i') * dv 4294967296 E ∧ Blk (wr.setCell ⟨g, k, none⟩ (.int .u32 (c : Int))) g 47 (dc R'') ∧ Below w.heap.size w (wr.setCell ⟨g, k, none⟩ (.int .u32 (c : Int))) from by
            refine ⟨i + 1, R'.set k c, by go_num, by omega, by rw [List.length_set]; exact HRL'.out, dok_set HR'.out _ _ hc, fun q d hq hd => ?_, ?_, ?_, ?_⟩
            · rw [List.getElem?_set_ne (by omega)] at hd
              exact HZ'.out q d (by omega) hd
            · have h1 := dv_set (B := 4294967296) R' k c 0 HO.out
              have h2 := HI'.out
              rw [List.take_of_length_le (show E.length ≤ m by rw [HL2.out]; exact Nat.le_refl _), ← HKk.out, HI.out] at h2
              rw [dv_take_getD, HDt.out, Nat.add_mul]
              omega
            · rw [← dc_set]; exact (store_step HK'.out k _).1
            · exact (store_step HK'.out k _).2.2 _ _ HB'.out HG.out)
          clear ho hk
          go_wp2
          go_roundw
          case rel => exact HNx.out
          case measure => simp only [intOf]; rw [show ((i : Int) + 1).toNat = i + 1 by omega]; omega
    · have hlti : ¬ (i : Int) < n := by omega
      obtain rfl : n = i := by omega
      have HF := Lib.hid (show dv 4294967296 R = dv 4294967296 D * dv 4294967296 E by
        have := HI.out
        rw [List.take_of_length_le (show D.length ≤ n by rw [HL.out]; exact Nat.le_refl _)] at this
        exact this)
      go_wp2
      go_ret
      refine ⟨g, R, ?_, HK.out, HG.out, HR.out, HF.out, HRL.out, HBW.out⟩
      rw [HRL.out]; rfl
end Go.Proofs.YtndkcimdbidgaaaDoor
