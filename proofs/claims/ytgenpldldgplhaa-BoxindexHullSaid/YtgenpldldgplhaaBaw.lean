/- The example of the chapter. -/
import Derived.Test.YtgenpldldgplhaaBca
import Derived.Test.YtgenpldldgplhaaBwa
import Derived.Test.YtgenpldldgplhaaBsn
namespace Go.Proofs.Ytgenpldldgplhaa
open Go.ChangeShapes Go.WideShapes Go.ChangeAt Go.RowKit Go.ChangeMaps

section
variable (A1 A2 : Option Addr) (c1 c2 : Nat)
def eL1 : List It := putL [] ⟨2, 0, A1, 1, c1, [numS 6 9]⟩
def eL2 : List It := putL (eL1 A1 c1) ⟨1, 0, A2, 1, c2, [numS 0 5]⟩
theorem e_len : (eL2 A1 A2 c1 c2).length = 2 := by kernel_rfl
theorem e_c1 : candL (eL2 A1 A2 c1 c2) 0 [numS 4 6] = [1, 2] := by kernel_rfl
theorem e_c2 : candL (eL2 A1 A2 c1 c2) 0 [numS 7 7] = [2] := by kernel_rfl
theorem e_d1 : (fnd (eL2 A1 A2 c1 c2) 2).isSome = true := by kernel_rfl
theorem e_d2 : (fnd (delL (eL2 A1 A2 c1 c2) 2) 2).isSome = false := by kernel_rfl
theorem e_l2 : (delL (delL (eL2 A1 A2 c1 c2) 2) 2).length = 1 := by kernel_rfl
end
theorem nms_two {W : World} {g : Nat} {a b : Int} (h : Blk W g 2 #[.int .i64 a, .int .i64 b]) : Nms W (some ⟨g, 0, none⟩) 2 [a, b] := ⟨rfl, fun _ => ⟨g, 0, rfl, h.lt, fun j u hu => by rw [Nat.zero_add]; exact (Blk.cell h j).trans (by simpa [ic] using hu)⟩⟩
theorem nms_one {W : World} {g : Nat} {a : Int} (h : Blk W g 2 #[.int .i64 a]) : Nms W (some ⟨g, 0, none⟩) 1 [a] := ⟨rfl, fun _ => ⟨g, 0, rfl, h.lt, fun j u hu => by rw [Nat.zero_add]; exact (Blk.cell h j).trans (by simpa [ic] using hu)⟩⟩
theorem Nms.own {w : World} {B n c : Nat} {A : Option Addr} {R : List Int} (h : w.ownsRow B 2 1 (.slice A n c) n (ic .i64 R)) : Nms w A n R := by
  obtain ⟨A', c', e, h1, -⟩ := At.of_own h
  injection e with e1 e2 e3
  subst e1
  exact h1
theorem Asc.len_put {L : List It} {x : It} : (putL L x).length ≤ L.length + 1 := by
  unfold putL
  rw [ins_len]
  have : (delL L x.id).length ≤ L.length := List.length_filter_le _ _
  omega
set_option maxRecDepth 100000 in
set_option maxHeartbeats 4000000 in
theorem awake_any (w : World) : Calls Try.prog 9 #[] w fun e w' => e = .returned (.bool true) ∧ Below w.heap.size w w' := by
  go_enter Try.func9, Try.ntmps9
  go_wp2_with fail
  refine (New_any w).mono ?_
  rintro e1 w1 ⟨x, rfl, hix, hb⟩
  have HIX := Lib.hid hix
  have HB := Lib.hid hb
  clear hix hb
  go_wp2_with fail
  refine (Len_any w1 _ x 0 [] HIX.out).mono ?_
  rintro e2 w2 ⟨rfl, rfl⟩
  simp only [List.length_nil, Int.natCast_zero]
  go_wp2_with fail
  refine (Span_any 6 9 w2).mono ?_
  rintro e3 w3 ⟨A1, c1, rfl, hs, hb3⟩
  have HIX3 := Lib.hid (HIX.out.below hb3)
  have HB3 := Lib.hid (HB.out.trans (hb3.mono HB.out.size))
  have HS3 := Lib.hid hs
  clear hs hb3 HIX HB
  go_wp2_with fail
  refine (Put_any w3 _ x 0 [] HIX3.out 2 0 (by unfold w64; rfl) (by unfold w64; rfl) A1 1 c1 [numS 6 9] HS3.out (by omega) (by omega)).mono ?_
  rintro e4 w4 ⟨rfl, ⟨A', c', hix⟩, hkc, hbl⟩
  have HIX := Lib.hid (show IX w4 w.heap.size x (0 + 1) (eL1 A' c') from hix)
  have HB := Lib.hid (hbl w HB3.out)
  clear hix hkc hbl HIX3 HB3 HS3
  go_wp2_with fail
  refine (Span_any 0 5 w4).mono ?_
  rintro e3 w5 ⟨A2, c2, rfl, hs, hb3⟩
  have HIX3 := Lib.hid (HIX.out.below hb3)
  have HB3 := Lib.hid (HB.out.trans (hb3.mono HB.out.size))
  have HS3 := Lib.hid hs
  clear hs hb3 HIX HB
  go_wp2_with fail
  refine (Put_any w5 _ x (0 + 1) (eL1 A' c') HIX3.out 1 0 (by unfold w64; rfl) (by unfold w64; rfl) A2 1 c2 [numS 0 5] HS3.out (by omega) (by omega)).mono ?_
  rintro e4 w6 ⟨rfl, ⟨A'', c'', hix⟩, hkc, hbl⟩
  have HIX := Lib.hid (show IX w6 w.heap.size x (0 + 1 + 1) (eL2 A' A'' c' c'') from hix)
  have HB := Lib.hid (hbl w HB3.out)
  have E1 := Lib.hid (e_c1 A' A'' c' c'')
  have E2 := Lib.hid (e_c2 A' A'' c' c'')
  have E3 := Lib.hid (e_d1 A' A'' c' c'')
  have E4 := Lib.hid (e_d2 A' A'' c' c'')
  have E5 := Lib.hid (e_l2 A' A'' c' c'')
  have E6 := Lib.hid (e_len A' A'' c' c'')
  generalize eL2 A' A'' c' c'' = L at *
  clear hix hkc hbl HIX3 HB3 HS3
  go_wp2_with fail
  refine (Len_any w6 _ x _ L HIX.out).mono ?_
  rintro e2 w7 ⟨rfl, rfl⟩
  rw [E6.out]
  go_wp2_with fail
  refine (Span_any 4 6 w7).mono ?_
  rintro e3 w8 ⟨A3, c3, rfl, hs, hb3⟩
  have HIX3 := Lib.hid (HIX.out.below hb3)
  have HB3 := Lib.hid (HB.out.trans (hb3.mono HB.out.size))
  have HS3 := Lib.hid hs
  clear hs hb3 HIX HB
  go_wp2_with fail
  refine (Cand_any w8 _ x _ L HIX3.out 0 (by unfold w64; rfl) A3 1 c3 [numS 4 6] HS3.out (by omega) (by rw [E6.out]; omega)).mono ?_
  rintro e4 w9 ⟨A4, n4, c4, rfl, ho4, hb4⟩
  rw [E1.out] at ho4
  have HIX4 := Lib.hid (HIX3.out.below hb4)
  have HB4 := Lib.hid (HB3.out.trans (hb4.mono HB3.out.size))
  have HO4 := Lib.hid ho4
  obtain rfl : n4 = 2 := by have h9 := ho4.1; rw [ic_len] at h9; simp at h9; omega
  clear ho4 hb4 HIX3 HB3 HS3
  obtain ⟨W9, hW9⟩ : ∃ W9, W9 = w9.alloc (.cells #[.int .i64 1, .int .i64 2] 2) := ⟨_, rfl⟩
  have hb9 : Below w9.heap.size w9 W9 := by rw [hW9]; exact (Below.refl _ w9).alloc (Nat.le_refl _) _
  have HSA := Lib.hid (Same_any A4 (some ⟨w9.heap.size, 0, none⟩) 2 2 c4 2 [1, 2] [1, 2] W9 ((Nms.own HO4.out).below hb9) (nms_two (by rw [hW9]; exact Blk.new_ rfl rfl)) (by omega))
  have HIX5 := Lib.hid (HIX4.out.below hb9)
  have HB5 := Lib.hid (HB4.out.trans (hb9.mono HB4.out.size))
  clear hb9 HIX4 HB4 HO4
  rw [hW9] at HSA
  go_wp2_with fail
  refine HSA.out.mono ?_
  rintro e5 wa ⟨rfl, hba⟩
  rw [← hW9] at hba
  have HIX := Lib.hid (HIX5.out.below hba)
  have HB := Lib.hid (HB5.out.trans (hba.mono HB5.out.size))
  clear hba HIX5 HB5 HSA hW9
  simp only [decide_true]
  go_wp2_with fail
  refine (Span_any 7 7 wa).mono ?_
  rintro e3 wb ⟨A6, c6, rfl, hs, hb3⟩
  have HIX3 := Lib.hid (HIX.out.below hb3)
  have HB3 := Lib.hid (HB.out.trans (hb3.mono HB.out.size))
  have HS3 := Lib.hid hs
  clear hs hb3 HIX HB
  go_wp2_with fail
  refine (Cand_any wb _ x _ L HIX3.out 0 (by unfold w64; rfl) A6 1 c6 [numS 7 7] HS3.out (by omega) (by rw [E6.out]; omega)).mono ?_
  rintro e4 wc ⟨A7, n7, c7, rfl, ho4, hb4⟩
  rw [E2.out] at ho4
  have HIX4 := Lib.hid (HIX3.out.below hb4)
  have HB4 := Lib.hid (HB3.out.trans (hb4.mono HB3.out.size))
  have HO4 := Lib.hid ho4
  obtain rfl : n7 = 1 := by have h9 := ho4.1; rw [ic_len] at h9; simp at h9; omega
  clear ho4 hb4 HIX3 HB3 HS3
  obtain ⟨W9, hW9⟩ : ∃ W9, W9 = wc.alloc (.cells #[.int .i64 2] 2) := ⟨_, rfl⟩
  have hb9 : Below wc.heap.size wc W9 := by rw [hW9]; exact (Below.refl _ wc).alloc (Nat.le_refl _) _
  have HSA := Lib.hid (Same_any A7 (some ⟨wc.heap.size, 0, none⟩) 1 1 c7 1 [2] [2] W9 ((Nms.own HO4.out).below hb9) (nms_one (by rw [hW9]; exact Blk.new_ rfl rfl)) (by omega))
  have HIX5 := Lib.hid (HIX4.out.below hb9)
  have HB5 := Lib.hid (HB4.out.trans (hb9.mono HB4.out.size))
  clear hb9 HIX4 HB4 HO4
  rw [hW9] at HSA
  go_wp2_with fail
  refine HSA.out.mono ?_
  rintro e5 wd ⟨rfl, hba⟩
  rw [← hW9] at hba
  have HIX := Lib.hid (HIX5.out.below hba)
  have HB := Lib.hid (HB5.out.trans (hba.mono HB5.out.size))
  clear hba HIX5 HB5 HSA hW9
  simp only [decide_true]
  go_wp2_with fail
  refine (Delete_any wd _ x _ L HIX.out 2 (by unfold w64; rfl)).mono ?_
  rintro e6 we ⟨rfl, hix, -, hbl⟩
  have HIX2 := Lib.hid hix
  have HB2 := Lib.hid (hbl w HB.out)
  clear hix hbl HIX HB
  rw [E3.out]
  go_wp2_with fail
  refine (Delete_any we _ x _ (delL L 2) HIX2.out 2 (by unfold w64; rfl)).mono ?_
  rintro e6 wf ⟨rfl, hix, -, hbl⟩
  have HIX := Lib.hid hix
  have HB := Lib.hid (hbl w HB2.out)
  clear hix hbl HIX2 HB2
  rw [E4.out]
  go_wp2_with fail
  refine (Len_any wf _ x _ _ HIX.out).mono ?_
  rintro e2 wg ⟨rfl, rfl⟩
  rw [E5.out]
  go_wp2
  go_ret
  exact ⟨rfl, HB.out⟩
end Go.Proofs.Ytgenpldldgplhaa
