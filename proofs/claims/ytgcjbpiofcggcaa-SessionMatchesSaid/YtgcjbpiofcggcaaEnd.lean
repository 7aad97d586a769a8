/- The end of a transaction. -/
import Derived.Test.YtgcjbpiofcggcaaScr
import Derived.Deep.MidRow
namespace Go.Proofs.Ytgcjbpiofcggcaa
open Go.ChangeShapes Go.WideShapes Go.ChangeAt Go.RowKit Go.ChangeMaps

theorem stv_all (k : Int) (i : Nat) : (#[.int .i64 (k), .string ⟨#[]⟩, .slice none 0 0, .slice none 0 0, .slice none 0 0, .slice none 0 0, .slice none 0 0, .slice none 0 0, .slice none 0 0, .slice none 0 0, .int .i64 0, .string ⟨#[]⟩, .string ⟨#[]⟩, .int .i64 0, .int .i64 0, .int .i64 0, .string ⟨#[]⟩, .slice none 0 0, .slice none 0 0, .slice none 0 0, .int .i64 (i : Int), .string ⟨#[]⟩] : Array Value).all (·.oneCell') = true := all_oneCell_toArray (cs := stv k i) (by
  intro u hu
  simp only [stv, List.mem_cons, List.not_mem_nil, or_false] at hu
  rcases hu with rfl | rfl | rfl | rfl | rfl | rfl | rfl | rfl | rfl | rfl | rfl | rfl | rfl | rfl | rfl | rfl | rfl | rfl | rfl | rfl | rfl | rfl <;> rfl)
theorem size56 : (Try.prog.info? 56).map (·.size) = some 22 := by kernel_rfl
set_option maxRecDepth 100000 in
set_option maxHeartbeats 6000000 in
theorem end_any (A : Option Addr) (n c : Nat) (K : List Int) (f : Nat) (w : World) (hr : At w A n 22 (stC K n)) (hL : K.length = n) (hn : n ≤ 300000000000) (hc : n ≤ c) (hf : f < n) :
    Calls Try.prog 25 #[.slice A n c, .int .i64 (f : Int)] w fun e w' => e = .returned (.int .i64 (endM K f : Nat)) ∧ Below w.heap.size w w' := by
  obtain ⟨b, off, rfl, hb, hcc⟩ := hr.2 (by omega)
  have HL := Lib.hid hL
  clear hL hr
  have hc := hcc
  clear hcc
  have g0 : w.cell? ⟨b, off + f * 22, none⟩ = some (.int .i64 (K.getD f 0)) := hc _ _ (stC_get K n f 0 hf (by omega))
  by_cases h6 : K.getD f 0 = 6
  · rw [h6] at g0
    have HE : Hid (endM K f = scanF K (n - f) f) := Lib.hid (by unfold endM; rw [if_pos h6, HL.out])
    clear h6
    have HC := Lib.hid hc
    clear hc
    go_enter Try.func25, Try.ntmps25
    go_wp2
    go_loopw [18] (fun i wr => ∃ k : Nat, k ≤ n - f ∧ i = .int .i64 k ∧ scanF K (n - f) f = scanF K (n - f - k) (f + k) ∧ Below w.heap.size w wr) (fun i _ => n - (intOf i).toNat)
    case atStart => exact ⟨0, Nat.zero_le _, rfl, rfl, Below.refl _ _⟩
    case round =>
      obtain ⟨k, hk, rfl, hs, hB⟩ := hrel
      by_cases hlt : k < n - f
      · have hc := HC.out
        have hrange : Hid (wr.rangeAt b (off + f * 22 + k * 22) [.int .i64 (K.getD (f + k) 0), .string ⟨#[]⟩, .slice none 0 0, .slice none 0 0, .slice none 0 0, .slice none 0 0, .slice none 0 0, .slice none 0 0, .slice none 0 0, .slice none 0 0, .int .i64 0, .string ⟨#[]⟩, .string ⟨#[]⟩, .int .i64 0, .int .i64 0, .int .i64 0, .string ⟨#[]⟩, .slice none 0 0, .slice none 0 0, .slice none 0 0, .int .i64 ((f + k : Nat) : Int), .string ⟨#[]⟩]) := Lib.hid (fun j v hj => by
          have hjl : j < 22 := (List.getElem?_eq_some_iff.1 hj).1
          rw [show off + f * 22 + k * 22 + j = off + ((f + k) * 22 + j) by omega]
          exact (hB.cell (p := ⟨b, off + ((f + k) * 22 + j), none⟩) hb).trans (hc _ _ ((stC_get K n (f + k) j (by omega) hjl).trans hj)))
        have HB := Lib.hid hB
        have hstep : scanF K (n - f - k) (f + k) = if isE (K.getD (f + k) 0) then f + k else scanF K (n - f - (k + 1)) (f + (k + 1)) := by
          rw [show n - f - k = (n - f - (k + 1)) + 1 by omega, scanF]; rfl
        rw [hstep] at hs
        have hbd := scanF_bd K (n - f) f (by rw [HL.out]; omega) (by omega)
        rw [HL.out] at hbd
        clear hB hc hstep
        generalize hkk : K.getD (f + k) 0 = kk at *
        have HB2 := Lib.hid (HB.out.alloc (by have := HB.out.size; omega) (.cells #[.int .i64 (kk), .string ⟨#[]⟩, .slice none 0 0, .slice none 0 0, .slice none 0 0, .slice none 0 0, .slice none 0 0, .slice none 0 0, .slice none 0 0, .slice none 0 0, .int .i64 0, .string ⟨#[]⟩, .string ⟨#[]⟩, .int .i64 0, .int .i64 0, .int .i64 0, .string ⟨#[]⟩, .slice none 0 0, .slice none 0 0, .slice none 0 0, .int .i64 ((f + k : Nat) : Int), .string ⟨#[]⟩] 56))
        by_cases h7 : kk = 7
        · subst h7
          have HS : Hid (scanF K (n - f) f = f + k) := Lib.hid hs
          clear hs hkk
          go_wp2_with (first | (refine wpList_load_mid (op := ⟨some 22, _, _, _, _, _⟩) rfl 56 _ rfl b (off + f * 22 + k * 22) rfl [.int .i64 (7), .string ⟨#[]⟩, .slice none 0 0, .slice none 0 0, .slice none 0 0, .slice none 0 0, .slice none 0 0, .slice none 0 0, .slice none 0 0, .slice none 0 0, .int .i64 0, .string ⟨#[]⟩, .string ⟨#[]⟩, .int .i64 0, .int .i64 0, .int .i64 0, .string ⟨#[]⟩, .slice none 0 0, .slice none 0 0, .slice none 0 0, .int .i64 ((f + k : Nat) : Int), .string ⟨#[]⟩] _ hrange.out Try.underlying56 rfl size56 ?_) | (refine wpList_store_new (op := ⟨none, _, _, _, _, _⟩) rfl 56 _ _ rfl wr _ #[.int .i64 (7), .string ⟨#[]⟩, .slice none 0 0, .slice none 0 0, .slice none 0 0, .slice none 0 0, .slice none 0 0, .slice none 0 0, .slice none 0 0, .slice none 0 0, .int .i64 0, .string ⟨#[]⟩, .string ⟨#[]⟩, .int .i64 0, .int .i64 0, .int .i64 0, .string ⟨#[]⟩, .slice none 0 0, .slice none 0 0, .slice none 0 0, .int .i64 ((f + k : Nat) : Int), .string ⟨#[]⟩] rfl rfl size56 rfl (stv_all 7 (f + k)) ?_))
          go_ret
          exact ⟨ret_int (by rw [HE.out, HS.out]; exact Int.natCast_add f k), HB2.out⟩
        · by_cases h8 : kk = 8
          · subst h8
            have HS : Hid (scanF K (n - f) f = f + k) := Lib.hid hs
            clear hs hkk h7
            go_wp2_with (first | (refine wpList_load_mid (op := ⟨some 22, _, _, _, _, _⟩) rfl 56 _ rfl b (off + f * 22 + k * 22) rfl [.int .i64 (8), .string ⟨#[]⟩, .slice none 0 0, .slice none 0 0, .slice none 0 0, .slice none 0 0, .slice none 0 0, .slice none 0 0, .slice none 0 0, .slice none 0 0, .int .i64 0, .string ⟨#[]⟩, .string ⟨#[]⟩, .int .i64 0, .int .i64 0, .int .i64 0, .string ⟨#[]⟩, .slice none 0 0, .slice none 0 0, .slice none 0 0, .int .i64 ((f + k : Nat) : Int), .string ⟨#[]⟩] _ hrange.out Try.underlying56 rfl size56 ?_) | (refine wpList_store_new (op := ⟨none, _, _, _, _, _⟩) rfl 56 _ _ rfl wr _ #[.int .i64 (8), .string ⟨#[]⟩, .slice none 0 0, .slice none 0 0, .slice none 0 0, .slice none 0 0, .slice none 0 0, .slice none 0 0, .slice none 0 0, .slice none 0 0, .int .i64 0, .string ⟨#[]⟩, .string ⟨#[]⟩, .int .i64 0, .int .i64 0, .int .i64 0, .string ⟨#[]⟩, .slice none 0 0, .slice none 0 0, .slice none 0 0, .int .i64 ((f + k : Nat) : Int), .string ⟨#[]⟩] rfl rfl size56 rfl (stv_all 8 (f + k)) ?_))
            go_ret
            exact ⟨ret_int (by rw [HE.out, HS.out]; exact Int.natCast_add f k), HB2.out⟩
          · have hs : scanF K (n - f) f = scanF K (n - f - (k + 1)) (f + (k + 1)) := by
              rw [hs, if_neg (by unfold isE; simp [h7, h8])]
            have HS := Lib.hid hs
            have HK : Hid (k + 1 ≤ n - f) := Lib.hid hlt
            have q7 : (kk == 7) = false := by simpa using h7
            have q8 : (kk == 8) = false := by simpa using h8
            clear hs hkk h7 h8
            go_wp2_with (first | (refine wpList_load_mid (op := ⟨some 22, _, _, _, _, _⟩) rfl 56 _ rfl b (off + f * 22 + k * 22) rfl [.int .i64 (kk), .string ⟨#[]⟩, .slice none 0 0, .slice none 0 0, .slice none 0 0, .slice none 0 0, .slice none 0 0, .slice none 0 0, .slice none 0 0, .slice none 0 0, .int .i64 0, .string ⟨#[]⟩, .string ⟨#[]⟩, .int .i64 0, .int .i64 0, .int .i64 0, .string ⟨#[]⟩, .slice none 0 0, .slice none 0 0, .slice none 0 0, .int .i64 ((f + k : Nat) : Int), .string ⟨#[]⟩] _ hrange.out Try.underlying56 rfl size56 ?_) | (refine wpList_store_new (op := ⟨none, _, _, _, _, _⟩) rfl 56 _ _ rfl wr _ #[.int .i64 (kk), .string ⟨#[]⟩, .slice none 0 0, .slice none 0 0, .slice none 0 0, .slice none 0 0, .slice none 0 0, .slice none 0 0, .slice none 0 0, .slice none 0 0, .int .i64 0, .string ⟨#[]⟩, .string ⟨#[]⟩, .int .i64 0, .int .i64 0, .int .i64 0, .string ⟨#[]⟩, .slice none 0 0, .slice none 0 0, .slice none 0 0, .int .i64 ((f + k : Nat) : Int), .string ⟨#[]⟩] rfl rfl size56 rfl (stv_all kk (f + k)) ?_))
            go_roundw
            case rel => exact ⟨k + 1, HK.out, by go_num, HS.out, HB2.out⟩
            case measure => simp [intOf]; omega
      · obtain rfl : k = n - f := by omega
        have HB := Lib.hid hB
        have HS : Hid (scanF K (n - f) f = n - 1) := Lib.hid (by rw [hs, show n - f - (n - f) = 0 by omega, scanF, HL.out])
        clear hB hs
        go_wp2
        go_ret
        exact ⟨by rw [HE.out, HS.out]; go_num, HB.out⟩
  · have hne : (K.getD f 0 != 6) = true := by simpa using h6
    have HE : Hid (endM K f = f) := Lib.hid (by unfold endM; rw [if_neg h6])
    clear h6 hc
    generalize K.getD f 0 = k0 at *
    go_enter Try.func25, Try.ntmps25
    go_wp2
    go_ret
    exact ⟨by rw [HE.out]; rfl, Below.refl _ _⟩
end Go.Proofs.Ytgcjbpiofcggcaa
