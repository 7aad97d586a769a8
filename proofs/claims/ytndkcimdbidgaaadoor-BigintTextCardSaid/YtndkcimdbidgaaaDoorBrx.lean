/- The text of the reference. -/
import Derived.Test.YtndkcimdbidgaaaDoorBrs
import Derived.Test.YtndkcimdbidgaaaDoorBfm
namespace Go.Proofs.YtndkcimdbidgaaaDoor
open Go.ChangeShapes Go.WideShapes Go.ChangeAt Go.RowKit Go.ChangeMaps

open Lib
theorem back70 (x : Nat) (hx : x < 256) (w : World) : (convert 70 9 (.slice (some ⟨w.heap.size, 0, none⟩) 1 1)).run Tryd.prog (w.alloc (.cells #[.int .u8 (x : Int)] 5)) = .ok (.string ⟨#[UInt8.ofNat x]⟩) (w.alloc (.cells #[.int .u8 (x : Int)] 5)) := by
  refine run_convert_bytes_back _ 70 9 5 ⟨w.heap.size, 0, none⟩ 1 [UInt8.ofNat x] Tryd.underlying70 Tryd.underlying5 Tryd.underlying9 ?_
  intro j hj
  match j, hj with
  | 0, _ =>
    show (w.alloc (.cells #[.int .u8 (x : Int)] 5)).cell? _ = _
    simp [Addr.add, World.cell?_alloc_at _ _ _ _ rfl, UInt8.toNat_ofNat, Nat.mod_eq_of_lt hx]
/-- The decimal digits of a number, none for zero. -/
def dec0 (x : Nat) : List UInt8 := if x = 0 then [] else decDigits x
theorem dec0_step {x : Nat} (h : 0 < x) : dec0 x = dec0 (x / 10) ++ [UInt8.ofNat (48 + x % 10)] := by
  unfold dec0
  rw [if_neg (by omega)]
  by_cases h3 : x < 10
  · rw [decDigits, dif_pos h3, if_pos (by omega), Nat.mod_eq_of_lt h3]
    rfl
  · rw [if_neg (by omega), show decDigits x = decDigits (x / 10) ++ [UInt8.ofNat (48 + x % 10)] from by rw [decDigits, dif_neg h3]]
theorem dec0_len {x N : Nat} (h : x < 65536 ^ (2 * N)) : (dec0 x).length ≤ 10 * N + 1 := by
  unfold dec0
  split
  · simp
  · refine decD_len (10 * N) x (Nat.lt_of_lt_of_le h ?_)
    have h1 : (65536 : Nat) ^ (2 * N) ≤ (10 ^ 5) ^ (2 * N) := Nat.pow_le_pow_left (by decide) _
    rw [← Nat.pow_mul, show 5 * (2 * N) = 10 * N by omega] at h1
    rw [Nat.pow_succ]
    exact Nat.le_trans h1 (Nat.le_mul_of_pos_right _ (by decide : 0 < 10))
theorem hv_lt {w : World} {v : Value} {x N : Nat} (h : HV w v x N) : x < 65536 ^ N := by
  obtain ⟨A, n, c, L, rfl, hg, hs, hn, rfl, hN⟩ := h
  exact Nat.lt_of_lt_of_le (dv_lt (B := 65536) (by decide) L hg.2.1) (Nat.pow_le_pow_right (by decide) (by rw [hg.1]; exact hN))
/-- A list of at most one digit. -/
theorem hv_digit {w : World} {v : Value} {x N : Nat} (h : HV w v x N) (hx : x < 65536) : (∃ A c, v = .slice A 0 c ∧ x = 0) ∨ (∃ b off c, v = .slice (some ⟨b, off, none⟩) 1 c ∧ w.cell? ⟨b, off, none⟩ = some (.int .i64 (x : Int)) ∧ 0 < x) := by
  obtain ⟨A, n, c, L, rfl, hg, hs, hn, rfl, hN⟩ := h
  have hl := hg.1
  match L, hl with
  | [], hl =>
    subst hl
    exact .inl ⟨A, c, rfl, rfl⟩
  | [d], hl =>
    subst hl
    obtain ⟨b, off, rfl, hb, hc⟩ := hg.2.2 (by simp)
    have h1 := hc 0 d rfl
    have h2 := hn d rfl
    have h3 : dv 65536 [d] = d := by simp [dv]
    rw [h3]
    exact .inr ⟨b, off, c, rfl, h1, by omega⟩
  | d :: e :: L, hl =>
    have h1 := nmz_low (B := 65536) (by decide) (d :: e :: L) hn (by simp)
    have h2 : (65536 : Nat) ^ 1 ≤ 65536 ^ ((d :: e :: L).length - 1) := Nat.pow_le_pow_right (by decide) (by simp)
    omega
def sLen2 : Value → Nat
  | .slice _ n _ => n
  | _ => 0
theorem hv_inj2 {w : World} {v : Value} {x y N M : Nat} (h : HV w v x N) (h2 : HV w v y M) : x = y := by
  obtain ⟨A, n, c, L, rfl, hg, _, _, hv, _⟩ := h
  obtain ⟨A2, n2, c2, L2, e, hg2, _, _, hv2, _⟩ := h2
  cases e
  have hl : L = L2 := by
    apply List.ext_getElem?
    intro j
    rcases Nat.lt_or_ge j n with hj | hj
    · obtain ⟨d, hd⟩ : ∃ d, L[j]? = some d := ⟨_, List.getElem?_eq_getElem (by rw [hg.1]; exact hj)⟩
      obtain ⟨d2, hd2⟩ : ∃ d, L2[j]? = some d := ⟨_, List.getElem?_eq_getElem (by rw [hg2.1]; exact hj)⟩
      obtain ⟨b, off, e, _, hc⟩ := hg.2.2 (by omega)
      obtain ⟨b2, off2, e2, _, hc2⟩ := hg2.2.2 (by omega)
      rw [e] at e2
      cases e2
      have h1 := (hc j d hd).symm.trans (hc2 j d2 hd2)
      injection h1 with h1
      injection h1 with _ h1
      rw [hd, hd2, Int.ofNat.inj h1]
    · rw [List.getElem?_eq_none (by rw [hg.1]; exact hj), List.getElem?_eq_none (by rw [hg2.1]; exact hj)]
  rw [← hv, ← hv2, hl]
open Classical in
noncomputable def hvN2 (w : World) (v : Value) : Nat := if h : ∃ x N, HV w v x N then h.choose else 0
theorem hvN2_of {w : World} {v : Value} {x N : Nat} (h : HV w v x N) : hvN2 w v = x := by
  have he : ∃ x N, HV w v x N := ⟨x, N, h⟩
  unfold hvN2
  rw [dif_pos he]
  obtain ⟨M, hM⟩ := he.choose_spec
  exact hv_inj2 hM h
set_option maxRecDepth 100000 in
set_option maxHeartbeats 4000000 in
theorem RText_any (v : Value) (z : Int) (N : Nat) (w : World) (h : BG w v z N) (hN : N ≤ 1000) : Calls Tryd.prog 42 #[v] w fun e w' => e = .returned (.string ⟨(fmtZ z).toArray⟩) ∧ Below w.heap.size w w' := by
  obtain ⟨na, A, n, c, D, rfl, hd1, hs1, hn1, hz1⟩ := h
  obtain ⟨W0, hW0⟩ : ∃ V, V = w.alloc (.cells #[.bool na, .slice A n c] 24) := ⟨_, rfl⟩
  have HB := Lib.hid (show Below w.heap.size w W0 by rw [hW0]; exact (Below.refl _ w).alloc (Nat.le_refl _) _)
  have K2 := Lib.hid (show Blk W0 w.heap.size 24 #[.bool na, .slice A n c] by rw [hW0]; exact Blk.new _ _ _)
  have CH := Lib.hid (halves_any _ z N W0 (BG.below ⟨na, A, n, c, D, rfl, hd1, hs1, hn1, hz1⟩ HB.out) (by omega))
  obtain ⟨v, hv⟩ : ∃ v, z.natAbs = v := ⟨_, rfl⟩
  rw [hv] at CH
  obtain ⟨T, hT⟩ : ∃ T, fmtZ z = T := ⟨_, rfl⟩
  rw [hT]
  have HT := Lib.hid (show (if v = 0 then [48] else if na = true then 45 :: decDigits v else decDigits v) = T from by
    rw [← hT, ← hv]
    unfold fmtZ
    by_cases h0 : z.natAbs = 0
    · obtain rfl : z = 0 := by omega
      rw [if_pos h0, if_neg (by decide), h0, decDigits, dif_pos (by decide)]
      rfl
    · rw [if_neg h0]
      cases na
      · rw [if_neg (by decide), if_neg (by rw [hz1]; simp [sgn])]
      · rw [if_pos rfl, if_pos (by have : sgn true (dv 4294967296 D) = -((dv 4294967296 D : Nat) : Int) := rfl; omega)])
  have HZ := Lib.hid hz1
  have K2_0 : W0.cell? ⟨w.heap.size, 0, none⟩ = some (.bool na) := K2.out.cell 0
  have K2_1 : W0.cell? ⟨w.heap.size, 1, none⟩ = some (.slice A n c) := K2.out.cell 1
  clear hd1 hs1 hn1 hz1 hv hT
  go_enter Tryd.func42, Tryd.ntmps42
  go_upto_region 1 with fail
  rw [← hW0]
  clear hW0
  go_wp2_with fail
  refine CH.out.mono ?_
  rintro e w1 ⟨v1, rfl, hv1, hb⟩
  have HV1 := Lib.hid hv1
  have HL1 := Lib.hid (dec0_len (hv_lt hv1))
  replace K2 := Lib.hid (K2.out.below hb)
  replace HB := Lib.hid (HB.out.trans (hb.mono HB.out.size))
  clear hb hv1 CH K2_0 K2_1
  go_wp2_with fail
  go_loopw [3, 4] (fun s3 s4 wr => ∃ (x : Nat) (t : ByteArray), s4 = .string t ∧ HV wr s3 x (2 * N + 1) ∧ dec0 x ++ t.data.toList = dec0 v ∧ Below w1.heap.size w1 wr) (fun s3 _ wr => (hvN2 wr s3))
  case atStart => exact ⟨v, ⟨#[]⟩, rfl, HV1.out.mono (by omega), by simp, Below.refl _ _⟩
  case round =>
    obtain ⟨x, t, rfl, hx, ht, hb⟩ := hrel
    have HX := Lib.hid hx
    have HTX := Lib.hid ht
    have HBr := Lib.hid hb
    have htl : t.size ≤ 10 * N + 1 := by
      have h1 := congrArg List.length ht
      have h2 := HL1.out
      rw [List.length_append] at h1
      have h3 : t.data.toList.length = t.size := by simp
      omega
    clear hx ht hb HV1
    obtain ⟨A6, n6, c6, M, e6, hg6, hs6, hnm6, hdv6, hN6⟩ := HX.out
    subst e6
    have hn0 : x = 0 ↔ n6 = 0 := by
      have h1 := nmz_zero (B := 65536) (by decide) M hnm6
      rw [hdv6] at h1
      have h2 := hg6.1
      constructor
      · intro e
        have := congrArg List.length (h1.1 e)
        rw [List.length_nil] at this
        omega
      · intro e
        exact h1.2 (List.eq_nil_of_length_eq_zero (by omega))
    have HN0 := Lib.hid hn0
    clear hg6 hs6 hnm6 hdv6 hn0
    rcases Nat.eq_zero_or_pos x with h0 | h0
    · subst h0
      obtain rfl : n6 = 0 := HN0.out.1 rfl
      replace K2 := Lib.hid (K2.out.below HBr.out)
      replace HB := Lib.hid (HB.out.trans (HBr.out.mono HB.out.size))
      have HTD : Hid (t.data.toList = dec0 v) := Lib.hid (by have h := HTX.out; simpa [dec0] using h)
      have K2_0 : wr.cell? ⟨w.heap.size, 0, none⟩ = some (.bool na) := K2.out.cell 0
      have htd : t.toList = t.data.toList := ByteArray.toList_eq t
      by_cases h0 : v = 0
      · subst h0
        have h1 : t.data.toList = [] := HTD.out
        have q2 : t.toList.isEmpty = true := by rw [htd, h1]; rfl
        have q3 : t.toList = [] := by rw [htd, h1]
        have HF := Lib.hid (show T = [48] from HT.out.symm)
        clear h1 htd
        go_wp2_with fail
        go_ret
        exact ⟨by rw [HF.out]; rfl, HB.out⟩
      · have h1 : t.data.toList = decDigits v := by rw [HTD.out]; unfold dec0; rw [if_neg h0]
        have hne : decDigits v ≠ [] := by rw [decDigits]; split <;> simp
        have q2 : t.toList.isEmpty = false := by rw [htd, h1]; simpa using hne
        have q3 : ¬ t.toList = [] := by rw [htd, h1]; exact hne
        have ht : t.data = (decDigits v).toArray := by rw [← h1]
        have HTT := Lib.hid ht
        cases na
        · have HF := Lib.hid (show T = decDigits v from by have h := HT.out; rw [if_neg h0, if_neg (by decide)] at h; exact h.symm)
          clear h1 htd hne ht h0
          go_wp2_with fail
          go_ret
          refine ⟨?_, HB.out⟩
          show Ending.returned (Value.string t) = _
          rw [HF.out, ← HTT.out]
        · have HF := Lib.hid (show T = 45 :: decDigits v from by have h := HT.out; rw [if_neg h0, if_pos rfl] at h; exact h.symm)
          clear h1 htd hne ht h0
          go_wp2_with fail
          go_ret
          refine ⟨?_, HB.out⟩
          show Ending.returned (Value.string (⟨#[45]⟩ ++ t)) = _
          rw [HF.out]
          congr 2
          apply ByteArray.ext
          rw [ByteArray.data_append, HTT.out]
          simp
    · have hn1 : n6 ≠ 0 := fun e => by have := HN0.out.2 e; omega
      have hgt : (n6 : Int) > 0 := by omega
      have hgt2 : (0 : Int) < (n6 : Int) := by omega
      have HX0 := Lib.hid h0
      obtain ⟨W2, hW2⟩ : ∃ W, W = wr.alloc (.cells #[.int .i64 10] 3) := ⟨_, rfl⟩
      have hb2 : Below wr.heap.size wr W2 := by rw [hW2]; exact (Below.refl _ _).alloc (Nat.le_refl _) _
      have CD := Lib.hid (split_hv (.slice A6 n6 c6) (.slice (some ⟨wr.heap.size, 0, none⟩) 1 1) x 10 (2 * N + 1) W2 (HX.out.below hb2) (show HV W2 _ 10 (2 * N + 1) from by rw [hW2]; exact (hv_one wr 10 (by decide) (by decide)).mono (by omega)) (by decide) (by omega))
      have HB2 := Lib.hid (HBr.out.trans (hb2.mono HBr.out.size))
      have HW2 := Lib.hid hW2
      clear hn1 h0 hW2 hb2
      go_wp2_with fail
      rw [← HW2.out]
      refine CD.out.mono ?_
      rintro e w7 ⟨vq, vr, rfl, hvq, hvr, hb⟩
      have HVQ := Lib.hid hvq
      have HVR := Lib.hid hvr
      have HBn := Lib.hid (HB2.out.trans (hb.mono HB2.out.size))
      clear hvq hvr hb CD HW2
      obtain ⟨d, hd⟩ : ∃ d, x % 10 = d := ⟨_, rfl⟩
      rw [hd] at HVR
      have hd10 : d < 10 := by omega
      have HDS := Lib.hid (show dec0 x = dec0 (x / 10) ++ [UInt8.ofNat (48 + d)] by rw [← hd]; exact dec0_step HX0.out)
      clear hd
      rcases hv_digit HVR.out (by omega) with ⟨Ar, cr, rfl, rfl⟩ | ⟨b, off, cr, rfl, hc, hd0⟩
      · have hcv := back70 48 (by decide) w7
        rw [show ((48 : Nat) : Int) = 48 from rfl] at hcv
        have HBB := Lib.hid (show (48 : Nat) = 48 + 0 from rfl)
        obtain ⟨y, hy⟩ : ∃ y, UInt8.ofNat 48 = y := ⟨_, rfl⟩
        rw [hy] at hcv
        have HYY := Lib.hid (show UInt8.ofNat (48 + 0) = y from hy)
        clear hy
        obtain ⟨W8, hW8⟩ : ∃ W, W = w7.alloc (.cells #[.int .u8 48] 5) := ⟨_, rfl⟩
        have hb8 : Below w7.heap.size w7 W8 := by rw [hW8]; exact (Below.refl _ _).alloc (Nat.le_refl _) _
        have HB8 := Lib.hid (HBn.out.trans (hb8.mono HBn.out.size))
        have HQ8 := Lib.hid (HVQ.out.below hb8)
        have HW8 := Lib.hid hW8
        have HTN := Lib.hid (show dec0 (x / 10) ++ (⟨#[y]⟩ ++ t : ByteArray).data.toList = dec0 v from by
          rw [← HTX.out, HDS.out, HYY.out, ByteArray.data_append]
          simp)
        clear hb8 hW8
        go_wp2
        go_roundw
        case rel => exact ⟨x / 10, _, rfl, by rw [← HW8.out]; exact HQ8.out, HTN.out, by rw [← HW8.out]; exact HB8.out⟩
        case measure =>
          show hvN2 _ _ < hvN2 _ _
          rw [← HW8.out, hvN2_of HQ8.out, hvN2_of HX.out]
          have := HX0.out
          omega
      · obtain ⟨x8, hx8⟩ : ∃ x, x = 48 + d := ⟨_, rfl⟩
        have hcv := back70 x8 (by omega) w7
        have h48 : (48 : Int) + (d : Int) = (x8 : Int) := by omega
        have hwr : IntKind.u8.wrap (x8 : Int) = (x8 : Int) := IntWalk.u8_in _ (by omega)
        have hx8I : (x8 : Int) ≤ 57 := by omega
        have hx80 : (0 : Int) ≤ (x8 : Int) := by omega
        obtain ⟨y, hy⟩ : ∃ y, UInt8.ofNat x8 = y := ⟨_, rfl⟩
        rw [hy] at hcv
        have HYY := Lib.hid (show UInt8.ofNat (48 + d) = y from by rw [← hx8]; exact hy)
        have hgt3 : (1 : Int) > 0 := by decide
        clear hy hx8
        obtain ⟨W8, hW8⟩ : ∃ W, W = w7.alloc (.cells #[.int .u8 (x8 : Int)] 5) := ⟨_, rfl⟩
        have hb8 : Below w7.heap.size w7 W8 := by rw [hW8]; exact (Below.refl _ _).alloc (Nat.le_refl _) _
        have HB8 := Lib.hid (HBn.out.trans (hb8.mono HBn.out.size))
        have HQ8 := Lib.hid (HVQ.out.below hb8)
        have HW8 := Lib.hid hW8
        have HTN := Lib.hid (show dec0 (x / 10) ++ (⟨#[y]⟩ ++ t : ByteArray).data.toList = dec0 v from by
          rw [← HTX.out, HDS.out, HYY.out, ByteArray.data_append]
          simp)
        clear hb8 hW8
        go_wp2
        go_roundw
        case rel => exact ⟨x / 10, _, rfl, by rw [← HW8.out]; exact HQ8.out, HTN.out, by rw [← HW8.out]; exact HB8.out⟩
        case measure =>
          show hvN2 _ _ < hvN2 _ _
          rw [← HW8.out, hvN2_of HQ8.out, hvN2_of HX.out]
          have := HX0.out
          omega
end Go.Proofs.YtndkcimdbidgaaaDoor
