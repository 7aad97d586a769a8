/- The walk of the law LexerTokens. -/
import Derived.Test.YtdkkflmhpncglaaDoorLxg
import Derived.Test.YtdkkflmhpncglaaDoorLre
namespace Go.Proofs.YtdkkflmhpncglaaDoor
open Go.ChangeShapes Go.WideShapes Go.ChangeAt Go.RowKit Go.ChangeMaps

theorem tokG_bd (l : List UInt8) : ∀ (f k : Nat) (T : List Tk), (∀ y ∈ T, y.p ≤ l.length) → (∀ y ∈ (tokG l f k T).ts, y.p ≤ l.length) ∧ (tokG l f k T).ts.length ≤ T.length + f + 1
  | 0, k, T, h => ⟨h, by show T.length ≤ _; omega⟩
  | f + 1, k, T, h => by
    rw [tokG]
    split
    · rename_i hk
      split
      · have h2 := tokG_bd l f (skP l (k + (nextR (l.drop k)).n)) (T ++ [⟨(nextR (l.drop k)).k, (nextR (l.drop k)).t, k⟩]) (fun y hy => by
          rcases List.mem_append.1 hy with hy | hy
          · exact h y hy
          · rw [List.mem_singleton.1 hy]
            show k ≤ l.length
            omega)
        refine ⟨h2.1, ?_⟩
        have h3 := h2.2
        rw [List.length_append] at h3
        simp only [List.length_cons, List.length_nil] at h3
        omega
      · exact ⟨fun y hy => (by have h : y ∈ ([] : List Tk) := hy; cases h), Nat.zero_le _⟩
    · refine ⟨fun y hy => ?_, ?_⟩
      · rcases List.mem_append.1 hy with hy | hy
        · exact h y hy
        · rw [List.mem_singleton.1 hy]
          exact Nat.le_refl _
      · show (T ++ [_]).length ≤ _
        rw [List.length_append]
        simp only [List.length_cons, List.length_nil]
        omega
theorem tokL_bd (l : List UInt8) (hl : l.length ≤ 20000) : (∀ y ∈ (tokL l).ts, y.p ≤ 100000) ∧ (tokL l).ts.length ≤ 100000 := by
  unfold tokL
  split
  · exact ⟨fun y hy => (by have h : y ∈ ([] : List Tk) := hy; cases h), Nat.zero_le _⟩
  · have h := tokG_bd l (l.length + 1) (skP l 0) [] (fun y hy => (by cases hy))
    refine ⟨fun y hy => Nat.le_trans (h.1 y hy) (by omega), ?_⟩
    have h2 := h.2
    simp only [List.length_nil] at h2
    omega
theorem shf_zero (T : List Tk) : decide (T = T.map (shf 0)) = true := by
  have e : T.map (shf 0) = T := by
    conv => rhs; rw [← List.map_id T]
    exact List.map_congr_left (fun x _ => rfl)
  rw [e]
  simp
set_option maxRecDepth 100000 in
set_option maxHeartbeats 2000000 in
theorem lexerTokens_walk (s : ByteArray) (w : World) (hs : s.size ≤ 140737488351232) (hE : LEnv w) : Calls Tryd.prog 3 #[.string s] w fun e w' => e = .returned (.bool true) ∧ Below w.heap.size w w' := by
  have HE := Lib.hid hE
  clear hE
  have AW := Lib.hid (fun W hW => awake_any W hW)
  have B1 := Lib.hid (Below.refl w.heap.size w)
  by_cases h200 : 20000 < s.size
  · have t1 : decide ((20000 : Int) < s.size) = true := decide_eq_true (by omega)
    go_enter Tryd.func3, Tryd.ntmps3
    go_wp2_with fail
    refine (AW.out _ (HE.out.below B1.out)).mono ?_
    rintro e w1 ⟨rfl, hb⟩
    have B1 := Lib.hid (B1.out.trans (hb.mono B1.out.size))
    clear hb
    go_wp2_with fail
    refine (AW.out _ (HE.out.below B1.out)).mono ?_
    rintro e w2 ⟨rfl, hb⟩
    have B1 := Lib.hid (B1.out.trans (hb.mono B1.out.size))
    clear hb
    go_wp2
    go_ret
    exact ⟨rfl, B1.out⟩
  · have t1 : decide ((20000 : Int) < s.size) = false := decide_eq_false (by omega)
    have CT := Lib.hid (fun W hW => Tokens_any s W (by omega) hW)
    have CR := Lib.hid (fun W hW => RTokens_any s W (by omega) hW)
    have HBD := Lib.hid (tokL_bd (lst s) (by rw [lst_len]; omega))
    generalize tokL (lst s) = R at *
    obtain ⟨T, k, x⟩ := R
    simp only at CT CR HBD
    go_enter Tryd.func3, Tryd.ntmps3
    go_wp2_with fail
    refine (AW.out _ (HE.out.below B1.out)).mono ?_
    rintro e w1 ⟨rfl, hb⟩
    have B1 := Lib.hid (B1.out.trans (hb.mono B1.out.size))
    clear hb
    go_wp2_with fail
    refine (CT.out _ (HE.out.below B1.out)).mono ?_
    rintro e w2 ⟨vw2, rfl, hO, hb⟩
    obtain ⟨Aw2, cw2, rfl, hT, -⟩ := OT.tks hO
    have HT2 := Lib.hid hT
    have B1 := Lib.hid (B1.out.trans (hb.mono B1.out.size))
    clear hb hO hT
    go_wp2_with fail
    refine (CR.out _ (HE.out.below B1.out)).mono ?_
    rintro e w3 ⟨vw3, rfl, hO, hb⟩
    obtain ⟨Aw3, cw3, rfl, hT, -⟩ := OT.tks hO
    have HT3 := Lib.hid hT
    have HT2 := Lib.hid (HT2.out.below hb)
    have B1 := Lib.hid (B1.out.trans (hb.mono B1.out.size))
    clear hb hO hT
    have CS := Lib.hid (show Calls Tryd.prog 13 #[.slice Aw2 T.length cw2, .slice Aw3 T.length cw3, .int .i64 0] w3 fun e w' => e = .returned (.bool true) ∧ Below w3.heap.size w3 w' by
      have h := same_any Aw2 Aw3 T.length T.length cw2 cw3 0 T T w3 HT2.out HT3.out HBD.out.2 HBD.out.1 (by decide)
      rw [shf_zero] at h
      exact h)
    clear HT2 HT3 CT CR
    go_wp2_with fail
    refine (CS.out).mono ?_
    rintro e w4 ⟨rfl, hb⟩
    have B1 := Lib.hid (B1.out.trans (hb.mono B1.out.size))
    clear hb
    go_wp2
    go_ret
    exact ⟨rfl, B1.out⟩
end Go.Proofs.YtdkkflmhpncglaaDoor
