/- The walk of the law LexerUnquote. -/
import Derived.Test.YtdkkflmhpncglaaDoorLxg
namespace Go.Proofs.YtdkkflmhpncglaaDoor
open Go.ChangeShapes Go.WideShapes Go.ChangeAt Go.RowKit Go.ChangeMaps

theorem unq_len (l t : List UInt8) (h : unqL l = some t) : t.length ≤ 1000 := by
  unfold unqL at h
  split at h
  · generalize litP l 1 [] = R at h
    rcases R with _ | x
    · cases h
    · unfold unqR at h
      simp only at h
      split at h
      · split at h
        · cases h
        · injection h with h
          subst h
          omega
      · cases h
  · cases h
set_option maxRecDepth 100000 in
set_option maxHeartbeats 2000000 in
theorem lexerUnquote_walk (s : ByteArray) (w : World) (hs : s.size ≤ 140737488351232) (hE : LEnv w) : Calls Tryd.prog 9 #[.string s] w fun e w' => e = .returned (.bool true) ∧ Below w.heap.size w w' := by
  have HE := Lib.hid hE
  clear hE
  have AW := Lib.hid (fun W hW => awake_any W hW)
  have B1 := Lib.hid (Below.refl w.heap.size w)
  by_cases h200 : 200 < s.size
  · have t1 : decide ((200 : Int) < s.size) = true := decide_eq_true (by omega)
    go_enter Tryd.func9, Tryd.ntmps9
    go_wp2_with fail
    refine (AW.out _ (HE.out.below B1.out)).mono ?_
    rintro e w1 ⟨rfl, hb⟩
    have B1 := Lib.hid (B1.out.trans (hb.mono B1.out.size))
    clear hb
    go_wp2_with fail
    refine (AW.out _ (HE.out.below B1.out)).mono ?_
    rintro e w2 ⟨rfl, hb⟩
    have B1 := Lib.hid (B1.out.trans (hb.mono B1.out.size))
    clear hb
    go_wp2
    go_ret
    exact ⟨rfl, B1.out⟩
  · have t1 : decide ((200 : Int) < s.size) = false := decide_eq_false (by omega)
    have CU := Lib.hid (fun W hW => Unquote_any s W (by omega) hW)
    have CR := Lib.hid (fun W => RUnquote_any s W (by omega))
    have HLN0 := Lib.hid (fun t h => unq_len (lst s) t h)
    have HQ := Lib.hid (fun t h => unq_quote (lst s) t h)
    generalize unqL (lst s) = U at *
    rcases U with _ | t
    · unfold unqV at CU
      unfold unqW at CR
      simp only at CU CR
      clear HQ
      go_enter Tryd.func9, Tryd.ntmps9
      go_wp2_with fail
      refine (AW.out _ (HE.out.below B1.out)).mono ?_
      rintro e w1 ⟨rfl, hb⟩
      have B1 := Lib.hid (B1.out.trans (hb.mono B1.out.size))
      clear hb
      go_wp2_with fail
      refine (CU.out _ (HE.out.below B1.out)).mono ?_
      rintro e w2 ⟨rfl, hb⟩
      have B1 := Lib.hid (B1.out.trans (hb.mono B1.out.size))
      clear hb
      go_wp2_with fail
      refine (CR.out _).mono ?_
      rintro e w3 ⟨rfl, hw⟩
      replace hw := hw.symm
      subst hw
      go_wp2
      go_ret
      exact ⟨rfl, B1.out⟩
    · have HQT := Lib.hid (HQ.out t rfl)
      have HLN := HLN0
      clear HLN0
      clear HQ
      unfold unqV at CU
      unfold unqW at CR
      simp only at CU CR
      have HTL := Lib.hid (show t.length ≤ 1000 from HLN.out t rfl)
      have CQ := Lib.hid (show ∀ W, LEnv W → Calls Tryd.prog 18 #[.string ⟨t.toArray⟩] W fun e w' => e = .returned (.string s) ∧ Below W.heap.size W w' by
        intro W hW
        have h := Quote_any ⟨t.toArray⟩ W HTL.out hW
        rw [show lst ⟨t.toArray⟩ = t from rfl, HQT.out, of_lst] at h
        exact h)
      obtain ⟨u, hu⟩ : ∃ u : ByteArray, (⟨t.toArray⟩ : ByteArray) = u := ⟨_, rfl⟩
      rw [hu] at CU CR CQ
      clear hu HTL HQT
      go_enter Tryd.func9, Tryd.ntmps9
      go_wp2_with fail
      refine (AW.out _ (HE.out.below B1.out)).mono ?_
      rintro e w1 ⟨rfl, hb⟩
      have B1 := Lib.hid (B1.out.trans (hb.mono B1.out.size))
      clear hb
      go_wp2_with fail
      refine (CU.out _ (HE.out.below B1.out)).mono ?_
      rintro e w2 ⟨rfl, hb⟩
      have B1 := Lib.hid (B1.out.trans (hb.mono B1.out.size))
      clear hb
      go_wp2_with fail
      refine (CR.out _).mono ?_
      rintro e w3 ⟨rfl, hw⟩
      replace hw := hw.symm
      subst hw
      go_wp2_with fail
      refine (CQ.out _ (HE.out.below B1.out)).mono ?_
      rintro e w4 ⟨rfl, hb⟩
      have B1 := Lib.hid (B1.out.trans (hb.mono B1.out.size))
      clear hb
      go_wp2
      go_ret
      exact ⟨rfl, B1.out⟩
end Go.Proofs.YtdkkflmhpncglaaDoor
