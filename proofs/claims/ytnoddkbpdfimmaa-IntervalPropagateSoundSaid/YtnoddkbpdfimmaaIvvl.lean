/- Values of forms, and whether constraints hold. -/
import Derived.Test.YtnoddkbpdfimmaaIvgd
import Derived.Test.YtnoddkbpdfimmaaOpn3
namespace Go.Proofs.Ytnoddkbpdfimmaa
open Go.ChangeShapes Go.WideShapes Go.ChangeAt Go.RowKit Go.ChangeMaps

theorem Xs.len {w : World} {A : Option Addr} {n : Nat} {xs : List Int} (h : Xs w A n xs) : xs.length = n := by
  have h1 := h.1
  rw [List.length_map] at h1
  omega
theorem Xs.below {w W : World} {A : Option Addr} {n : Nat} {xs : List Int} (h : Xs w A n xs) (hb : Below w.heap.size w W) : Xs W A n xs := At.below h hb
theorem Xs.at {w : World} {A : Option Addr} {n : Nat} {xs : List Int} (h : Xs w A n xs) (hn : 0 < n) : ∃ b off, A = some ⟨b, off, none⟩ ∧ b < w.heap.size ∧ ∀ (W : World), Below w.heap.size w W → ∀ i (hi : i < xs.length), W.cell? ⟨b, off + i, none⟩ = some (.int .i64 xs[i]) := by
  obtain ⟨b, off, e, hb, hc⟩ := h.2 hn
  refine ⟨b, off, e, hb, fun W hW i hi => keepcell hW (hc i _ ?_)⟩
  rw [List.getElem?_map, List.getElem?_eq_getElem hi]
  rfl
set_option maxRecDepth 100000 in
set_option maxHeartbeats 2000000 in
theorem RValue_any (c : Int) (A : Option Addr) (n cap : Nat) (L : List Iv) (X : Option Addr) (m cap2 : Nat) (xs : List Int) (w : World) (h : Ivs w A n L) (h2 : Xs w X m xs) (hn : n ≤ 64) (hc : -1099511627776 ≤ c ∧ c ≤ 1099511627776) (hL : ∀ x ∈ L, CfOk m x) (hx : ∀ z ∈ xs, -4294967296 ≤ z ∧ z ≤ 4294967296) :
    Calls Try.prog 46 #[.agg #[.int .i64 c, .slice A n cap], .slice X m cap2] w fun e w' => e = .returned (.int .i64 (valM xs L c)) ∧ Below w.heap.size w w' := by
  obtain ⟨res, hres⟩ : ∃ res, valM xs L c = res := ⟨_, rfl⟩
  rw [hres]
  have HRES := Lib.hid hres
  have HL := Lib.hid h.len
  have HA := Lib.hid h.at
  have HM := Lib.hid h2.len
  have HXA := Lib.hid h2.at
  have HLO := Lib.hid hL
  have HXB := Lib.hid hx
  clear h h2 hL hx hres
  obtain ⟨W0, hW0⟩ : ∃ W, W = w.alloc (.cells #[.int .i64 c, .slice A n cap] 56) := ⟨_, rfl⟩
  have HB := Lib.hid (show Below w.heap.size w W0 by rw [hW0]; exact (Below.refl _ w).alloc (Nat.le_refl _) _)
  have K2 := Lib.hid (show Blk W0 w.heap.size 56 #[.int .i64 c, .slice A n cap] by rw [hW0]; exact Blk.new _ _ _)
  have e0 : W0.cell? ⟨w.heap.size, 0, none⟩ = some (.int .i64 c) := K2.out.cell 0
  go_enter Try.func46, Try.ntmps46
  go_upto_region 1 with fail
  rw [← hW0]
  clear hW0
  go_wp2
  clear e0
  go_loopw [5, 6] (fun s5 s6 wr => ∃ (k : Nat) (s : Int), s5 = .int .i64 s ∧ s6 = .int .i64 (k : Int) ∧ k ≤ n ∧ valM xs (L.drop k) s = res ∧ (-(1099511627776 + (k : Int) * 4503599627370496) ≤ s ∧ s ≤ 1099511627776 + (k : Int) * 4503599627370496) ∧ Blk wr w.heap.size 56 #[.int .i64 c, .slice A n cap] ∧ Below w.heap.size w wr) (fun _ s6 _ => n - (intOf s6).toNat)
  case atStart => exact ⟨0, c, rfl, rfl, Nat.zero_le _, HRES.out, by omega, K2.out, HB.out⟩
  case round =>
    obtain ⟨k, s, rfl, rfl, hkn, hE, hsb, hK, hB⟩ := hrel
    have HE := Lib.hid hE
    have HK := Lib.hid hK
    have HB := Lib.hid hB
    have e0 : wr.cell? ⟨w.heap.size, 0, none⟩ = some (.int .i64 c) := hK.cell 0
    have e1 : wr.cell? ⟨w.heap.size, 1, none⟩ = some (.slice A n cap) := hK.cell 1
    clear hE hK hB K2
    by_cases hlt : k < n
    · have hki : (k : Int) < n := by omega
      have hk0 : (0 : Int) ≤ (k : Int) := by omega
      obtain ⟨b, off, rfl, hbl, hcc⟩ := HA.out (by omega)
      have hi' : k < L.length := by rw [HL.out]; exact hlt
      obtain ⟨c0, c1⟩ := hcc wr HB.out k hi'
      have HX := Lib.hid (HLO.out _ (List.getElem_mem hi'))
      have HDR := Lib.hid (show L.drop k = L[k] :: L.drop (k + 1) from (List.drop_eq_getElem_cons hi'))
      clear hcc hbl
      generalize L[k] = y at *
      obtain ⟨y0, y1⟩ := y
      simp only at c0 c1
      rw [HDR.out] at HE
      obtain ⟨v, rfl⟩ : ∃ v : Nat, y0 = (v : Int) := ⟨y0.toNat, by have := HX.out.1.1; simp only at this; omega⟩
      have hv : v < m := by have := HX.out.1.2; simp only at this; omega
      have hvi : (v : Int) < m := by omega
      have hv0 : (0 : Int) ≤ (v : Int) := by omega
      obtain ⟨b2, off2, rfl, hbl2, hc2⟩ := HXA.out (by omega)
      have hv' : v < xs.length := by rw [HM.out]; exact hv
      have d0c := hc2 wr HB.out v hv'
      have HZB := Lib.hid (HXB.out _ (List.getElem_mem hv'))
      have HGD : Hid (xs.getD v 0 = xs[v]) := Lib.hid (by simp [List.getD, List.getElem?_eq_getElem hv'])
      clear hc2 hbl2
      generalize xs[v] = z at *
      have hyb := HX.out.2
      simp only at hyb
      have hpb := mul_bd hyb HZB.out
      have HE1 := Lib.hid (show valM xs (L.drop (k + 1)) (s + y1 * z) = res by
        rw [← HE.out, ← HGD.out]
        rfl)
      have hw0 : IntKind.i64.wrap (y1 * z) = y1 * z := by rw [IntKind.wrap_i64]; omega
      generalize hpz : y1 * z = p at *
      have hs0 : IntKind.i64.wrap (s + p) = s + p := by rw [IntKind.wrap_i64]; omega
      have HSB := Lib.hid (show -(1099511627776 + ((k + 1 : Nat) : Int) * 4503599627370496) ≤ s + p ∧ s + p ≤ 1099511627776 + ((k + 1 : Nat) : Int) * 4503599627370496 by push_cast; omega)
      clear hsb hpb
      go_upto_region 5 with fail
      go_quiet (fail)
      go_wp2
      go_roundw
      case rel => exact ⟨k + 1, s + p, by first | rfl | (simp only [hpz]; go_num) | go_num, by go_num, hlt, HE1.out, HSB.out, by first | exact HK.out | exact HK.out.drew | exact Blk.below (below_drewN (Below.refl _ _)) HK.out, by first | exact HB.out | exact below_drewN HB.out | exact below_drew HB.out⟩
      case measure => simp only [intOf]; omega
    · obtain rfl : k = n := by omega
      have hlt2 : ¬ ((k : Int) < (k : Int)) := by omega
      have HEN := Lib.hid (show s = res by have h := HE.out; rwa [List.drop_eq_nil_of_le (by rw [HL.out]; exact Nat.le_refl _)] at h)
      go_wp2
      go_ret
      rw [← HEN.out]
      exact ⟨rfl, HB.out⟩
set_option maxRecDepth 100000 in
set_option maxHeartbeats 2000000 in
theorem RHolds_any (A : Option Addr) (n cap : Nat) (Cs : List Cn) (X : Option Addr) (m cap2 : Nat) (xs : List Int) (w : World) (h : Cns w A n Cs) (h2 : Xs w X m xs) (hn : n ≤ 1000) (hC : ∀ x ∈ Cs, x.ok m) (hx : ∀ z ∈ xs, -4294967296 ≤ z ∧ z ≤ 4294967296) :
    Calls Try.prog 29 #[.slice A n cap, .slice X m cap2] w fun e w' => GdP e (∀ x ∈ Cs, HoldM xs x) ∧ Below w.heap.size w w' := by
  have HL := Lib.hid h.len
  have HA := Lib.hid h.at
  have HI := Lib.hid h.2
  have HX := Lib.hid h2
  have HCO := Lib.hid hC
  have HXB := Lib.hid hx
  clear h h2 hC hx
  go_enter Try.func29, Try.ntmps29
  go_wp2
  go_loopw [5] (fun s5 wr => ∃ (k : Nat), s5 = .int .i64 (k : Int) ∧ k ≤ n ∧ (∀ x ∈ Cs.take k, HoldM xs x) ∧ Below w.heap.size w wr) (fun s5 _ => n - (intOf s5).toNat)
  case atStart => exact ⟨0, rfl, Nat.zero_le _, by simp, Below.refl _ _⟩
  case round =>
    obtain ⟨k, rfl, hkn, hE, hB⟩ := hrel
    have HE := Lib.hid hE
    have HB := Lib.hid hB
    clear hE hB
    by_cases hlt : k < n
    · have hki : (k : Int) < n := by omega
      have hk0 : (0 : Int) ≤ (k : Int) := by omega
      obtain ⟨b, off, rfl, hbl, hcc⟩ := HA.out (by omega)
      have hi' : k < Cs.length := by rw [HL.out]; exact hlt
      have HCN := Lib.hid (fun W hW => hcc W hW k hi')
      obtain ⟨c0, c1, c2⟩ := hcc wr HB.out k hi'
      have HTK := Lib.hid (List.take_succ_eq_append_getElem hi')
      have HXI := Lib.hid (HI.out _ (List.getElem_mem hi'))
      have HXO := Lib.hid (HCO.out _ (List.getElem_mem hi'))
      clear hcc hbl
      generalize Cs[k] = x at *
      obtain ⟨xc, xA, xn, xcap, xl, xe⟩ := x
      simp only at c0 c1 c2
      have VA := Lib.hid (RValue_any xc xA xn xcap xl X m cap2 xs wr (HXI.out.below HB.out) (HX.out.below HB.out) HXO.out.1 HXO.out.2.1 HXO.out.2.2 HXB.out)
      have HHM := Lib.hid (show (valM xs xl xc ≤ 0 ∧ (xe = true → valM xs xl xc = 0)) → ∀ x ∈ Cs.take (k + 1), HoldM xs x from fun h x hx => by
        rw [HTK.out, List.mem_append, List.mem_singleton] at hx
        rcases hx with hx | hx
        · exact HE.out x hx
        · rw [hx]; exact h)
      generalize valM xs xl xc = v at *
      go_wp2_with fail
      refine VA.out.mono ?_
      rintro e w2 ⟨rfl, hb⟩
      have HB2 := Lib.hid (HB.out.trans (hb.mono HB.out.size))
      clear hb VA c0 c1 c2
      obtain ⟨-, -, x2⟩ := HCN.out w2 HB2.out
      try simp only at x2
      by_cases hv : 0 < v
      · go_wp2
        go_ret
        exact ⟨⟨_, rfl, nofun⟩, HB2.out⟩
      · cases xe
        · have HQ := Lib.hid (HHM.out ⟨by omega, nofun⟩)
          go_wp2
          go_roundw
          case rel => exact ⟨k + 1, by go_num, hlt, HQ.out, HB2.out⟩
          case measure => simp only [intOf]; omega
        · by_cases hz : v = 0
          · have HQ := Lib.hid (HHM.out ⟨by omega, fun _ => hz⟩)
            have hvn : (v != 0) = false := by simpa using hz
            have hve : (v == 0) = true := by simpa using hz
            clear hz
            go_wp2
            go_roundw
            case rel => exact ⟨k + 1, by go_num, hlt, HQ.out, HB2.out⟩
            case measure => simp only [intOf]; omega
          · have hvn : (v != 0) = true := by simpa using hz
            have hve : (v == 0) = false := by simpa using hz
            go_wp2
            go_ret
            exact ⟨⟨_, rfl, nofun⟩, HB2.out⟩
    · obtain rfl : k = n := by omega
      have hlt2 : ¬ ((k : Int) < (k : Int)) := by omega
      have HQ := Lib.hid (show ∀ x ∈ Cs, HoldM xs x by have h := HE.out; rwa [List.take_of_length_le (by rw [HL.out]; exact Nat.le_refl _)] at h)
      go_wp2
      go_ret
      exact ⟨⟨_, rfl, fun _ => HQ.out⟩, HB.out⟩
end Go.Proofs.Ytnoddkbpdfimmaa
