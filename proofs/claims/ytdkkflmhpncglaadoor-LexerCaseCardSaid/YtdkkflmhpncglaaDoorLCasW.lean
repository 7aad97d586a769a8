/- The walk of the law LexerCase. -/
import Derived.Test.YtdkkflmhpncglaaDoorLsb
import Derived.Test.YtdkkflmhpncglaaDoorLTokW
import Derived.Lib.ConvBytes
namespace Go.Proofs.YtdkkflmhpncglaaDoor
open Go.ChangeShapes Go.WideShapes Go.ChangeAt Go.RowKit Go.ChangeMaps

theorem bits_of (c : UInt8) : bits BinOp.xor IntKind.u8 (c.toNat : Int) 32 = ((c ^^^ 32).toNat : Int) := xor_of c
theorem open_boolsA {H : Type} {enc : TypeId × Value → H} {W : World} {r : Reach} {b0 : Nat} {v : Value} {d : DataW H} {p : List MemPlace}
    (hv : Value.okWide Tryd.prog W r b0 33 v) (h : DataW.Trod enc Tryd.prog W 0 (fun _ => true) true 33 v d p) :
    ∃ (A : Option Addr) (n c : Nat) (f : Nat → Bool), v = .slice A n c ∧ n ≤ 9223372036854775807 ∧ (0 < n → ∃ b off, A = some ⟨b, off, none⟩ ∧ b < W.heap.size ∧ ∀ i, i < n → W.cell? ⟨b, off + i, none⟩ = some (.bool (f i))) := by
  obtain ⟨a0, len, cap, rfl⟩ := okWide_slice Tryd.underlying33 hv
  obtain ⟨fuel, hf⟩ := h
  have hC : Tryd.prog.cellsOf 4 = 1 := by kernel_rfl
  rcases DataW.trod_slice Tryd.underlying33 hf with ⟨hcs, _⟩ | ⟨a, len', cap', elems, rest, n, _, hcs, _, _, hl, hm, hlen, hel, _, _⟩
  · simp [Value.cells] at hcs
    obtain ⟨rfl, rfl, rfl⟩ := hcs
    exact ⟨_, _, _, fun _ => false, rfl, by omega, fun h => absurd h (by omega)⟩
  · simp [Value.cells] at hcs
    obtain ⟨rfl, rfl, rfl⟩ := hcs
    unfold maxLen at hm
    have key : ∀ i, i < len → ∃ b, W.cell? (a.add i) = some (.bool b) := fun i hi => by
      have h1 := hel i hi
      rw [List.getElem?_eq_getElem (by omega), hC, Nat.mul_one, Option.bind_eq_some_iff] at h1
      obtain ⟨cs', h2, h3⟩ := h1
      obtain ⟨b, rfl, _⟩ := DataW.trod_bool Tryd.underlying4 h3
      exact ⟨b, cell_of_cells?_one h2⟩
    obtain ⟨f, hf⟩ : ∃ f : Nat → Bool, ∀ i, i < len → W.cell? (a.add i) = some (.bool (f i)) := ⟨fun i => if hi : i < len then Classical.choose (key i hi) else false, fun i hi => by simp only [dif_pos hi]; exact Classical.choose_spec (key i hi)⟩
    refine ⟨_, _, _, f, rfl, by omega, fun hn => ?_⟩
    obtain ⟨b, off, spot⟩ := a
    have hb1 := hf 0 hn
    have hspot : spot = none := by simpa [Addr.add] using World.cell?_spot hb1
    subst hspot
    rw [add_plain] at hb1
    refine ⟨b, off, rfl, by simpa using block_lt_of_cell hb1, fun i hi => ?_⟩
    have h4 := hf i hi
    rw [add_plain] at h4
    exact h4
set_option maxRecDepth 100000 in
set_option maxHeartbeats 2000000 in
theorem lexerCase_walk (s : ByteArray) (A : Option Addr) (m cm : Nat) (f : Nat → Bool) (w : World) (hs : s.size ≤ 140737488351232) (hm : m ≤ 9223372036854775807) (hT : 0 < m → ∃ b off, A = some ⟨b, off, none⟩ ∧ b < w.heap.size ∧ ∀ i, i < m → w.cell? ⟨b, off + i, none⟩ = some (.bool (f i))) (hE : LEnv w) : Calls Tryd.prog 5 #[.string s, .slice A m cm] w fun e w' => e = .returned (.bool true) ∧ Below w.heap.size w w' := by
  have HE := Lib.hid hE
  have HT := Lib.hid hT
  clear hE hT
  have AW := Lib.hid (fun W hW => awake_any W hW)
  have B1 := Lib.hid (Below.refl w.heap.size w)
  by_cases h200 : 2000 < s.size
  · have t1 : decide ((2000 : Int) < s.size) = true := decide_eq_true (by omega)
    go_enter Tryd.func5, Tryd.ntmps5
    go_wp2_with fail
    refine (AW.out _ (HE.out.below B1.out)).mono ?_
    rintro e w1 ⟨rfl, hb⟩
    have B1 := Lib.hid (B1.out.trans (hb.mono B1.out.size))
    clear hb
    go_wp2_with fail
    refine (AW.out _ (HE.out.below B1.out)).mono ?_
    rintro e w2 ⟨rfl, hb⟩
    have B1 := Lib.hid (B1.out.trans (hb.mono B1.out.size))
    clear hb
    go_wp2
    go_ret
    exact ⟨rfl, B1.out⟩
  · have t1 : decide ((2000 : Int) < s.size) = false := decide_eq_false (by omega)
    have HSS := Lib.hid (show s.size ≤ 2000 by omega)
    clear h200
    have HL := Lib.hid (lst_len s)
    have CU := Lib.hid (fun W hW => RTokens_any s W (by have := HSS.out; omega) hW)
    have HBD := Lib.hid (tokL_bd (lst s) (by rw [lst_len]; have := HSS.out; omega))
    have CT := Lib.hid (fun (r : List UInt8) (h : CsL (lst s) r) (hq : ∀ c ∈ lst s, c ≠ 39) W hW => (by
      have h1 := Tokens_any ⟨r.toArray⟩ W (by show r.length ≤ 100000; rw [h.len, lst_len]; have := HSS.out; omega) hW
      rw [show lst ⟨r.toArray⟩ = r from rfl, tok_case h hq] at h1
      exact h1 : Calls Tryd.prog 11 #[.string ⟨r.toArray⟩] W _))
    generalize tokL (lst s) = R at *
    obtain ⟨T, k0, x0⟩ := R
    simp only at CT CU HBD
    go_enter Tryd.func5, Tryd.ntmps5
    go_wp2_with fail
    refine (AW.out _ (HE.out.below B1.out)).mono ?_
    rintro e w1 ⟨rfl, hb⟩
    have B1 := Lib.hid (B1.out.trans (hb.mono B1.out.size))
    clear hb
    have hr := Lib.run_convert_string_bytes (P := Tryd.prog) w1 9 34 5 s Tryd.underlying9 Tryd.underlying34 Tryd.underlying5
    have HK0 := Lib.hid (BK.new w1 s)
    have HB0 := Lib.hid (bytesWorld_below w1 s)
    have HBW := B1
    generalize Lib.bytesWorld w1 5 s = W1 at *
    generalize grownCap w1 s.size 0 5 = cap at *
    go_wp2
    clear hr
    go_loopw [27] (fun s27 wr => ∃ (k : Nat) (r : List UInt8), s27 = .int .i64 (k : Int) ∧ k ≤ s.size ∧ CsL (lst s) r ∧ (∀ j, k ≤ j → r[j]? = (lst s)[j]?) ∧ (∀ j, j < k → (lst s)[j]? ≠ some 39) ∧ BK wr w1.heap.size r ∧ Below w1.heap.size w1 wr) (fun s27 _ => s.size - (intOf s27).toNat)
    case atStart => exact ⟨0, lst s, rfl, Nat.zero_le _, CsL.refl _, fun _ _ => rfl, fun j hj => absurd hj (by omega), HK0.out, HB0.out⟩
    case round =>
      clear HK0 HB0
      obtain ⟨k, r, rfl, hkn, hC, hF, hQ, hK, hB⟩ := hrel
      have HC := Lib.hid hC
      have HF := Lib.hid hF
      have HQ := Lib.hid hQ
      have HK := Lib.hid hK
      have HB := Lib.hid hB
      clear hC hF hQ hK hB
      have HLR := Lib.hid (show r.length = s.size by rw [HC.out.len, HL.out])
      by_cases hlt : k < s.size
      · have hki : (k : Int) < s.size := by omega
        have hk0 : (0 : Int) ≤ (k : Int) := by omega
        have hkl : k < (lst s).length := by rw [HL.out]; exact hlt
        obtain ⟨c, hc⟩ : ∃ c, (lst s)[k]? = some c := ⟨_, List.getElem?_eq_getElem hkl⟩
        have cc := HK.out.cellq ((HF.out k (Nat.le_refl _)).trans hc)
        have HCK := Lib.hid hc
        have hcb := c.toNat_lt
        have hm1 := hm
        have HQ39 := Lib.hid (quo_iff c)
        clear hc hkl
        by_cases h39 : (c.toNat : Int) = 39
        · rw [h39] at cc
          go_wp2
          go_ret
          exact ⟨rfl, B1.out.trans (HB.out.mono B1.out.size)⟩
        · have h39b : ((c.toNat : Int) == 39) = false := beq_eq_false_iff_ne.2 h39
          have HQ2 := Lib.hid (show ∀ j, j < k + 1 → (lst s)[j]? ≠ some 39 from fun j hj => by
            rcases Nat.lt_or_ge j k with h | h
            · exact HQ.out j h
            · obtain rfl : j = k := by omega
              rw [HCK.out]
              intro e
              exact h39 (HQ39.out.1 (Option.some.inj e)))
          cases h1 : decide ((97 : Int) ≤ (c.toNat : Int))
          · cases h3 : decide ((65 : Int) ≤ (c.toNat : Int))
            · go_wp2
              go_roundw
              case rel => exact ⟨k + 1, r, by go_num, hlt, HC.out, fun j hj => HF.out j (by omega), HQ2.out, HK.out, HB.out⟩
              case measure => simp only [intOf]; omega
            · cases h4 : decide ((c.toNat : Int) ≤ 90)
              · go_wp2
                go_roundw
                case rel => exact ⟨k + 1, r, by go_num, hlt, HC.out, fun j hj => HF.out j (by omega), HQ2.out, HK.out, HB.out⟩
                case measure => simp only [intOf]; omega
              · have h2 : decide ((c.toNat : Int) ≤ 122) = true := decide_eq_true (by have := of_decide_eq_true h4; omega)
                by_cases htm : k < m
                · obtain ⟨b, off, rfl, hbl, hf⟩ := HT.out (by omega)
                  have cf := keepcell HB.out (keepcell HBW.out (hf k htm))
                  have htmi : (k : Int) < (m : Int) := by omega
                  have htd : decide ((k : Int) < (m : Int)) = true := decide_eq_true htmi
                  cases hfk : f k
                  · rw [hfk] at cf
                    clear hf
                    go_wp2
                    go_roundw
                    case rel => exact ⟨k + 1, r, by go_num, hlt, HC.out, fun j hj => HF.out j (by omega), HQ2.out, HK.out, HB.out⟩
                    case measure => simp only [intOf]; omega
                  · rw [hfk] at cf
                    clear hf
                    have fz := HK.out.free k (by rw [HLR.out]; exact hlt)
                    have hx := bits_of c
                    have HS := Lib.hid (HK.out.set k (c ^^^ 32))
                    have HC2 := Lib.hid (HC.out.set k c HCK.out (by unfold ltrN; simp only [h1, h2, h3, h4]; rfl))
                    have HF2 := Lib.hid (show ∀ j, k + 1 ≤ j → (r.set k (c ^^^ 32))[j]? = (lst s)[j]? from fun j hj => by
                      rw [List.getElem?_set_ne (by omega)]
                      exact HF.out j (by omega))
                    have HBS := Lib.hid (HB.out.setCell (p := ⟨w1.heap.size, k, none⟩) (Nat.le_refl _) (.int .u8 ((c ^^^ 32).toNat : Int)))
                    go_wp2
                    go_roundw
                    case rel => exact ⟨k + 1, r.set k (c ^^^ 32), by go_num, hlt, HC2.out, HF2.out, HQ2.out, HS.out, HBS.out⟩
                    case measure => simp only [intOf]; omega
                · have htmi : ¬ (k : Int) < (m : Int) := by omega
                  have htd : decide ((k : Int) < (m : Int)) = false := decide_eq_false htmi
                  go_wp2
                  go_roundw
                  case rel => exact ⟨k + 1, r, by go_num, hlt, HC.out, fun j hj => HF.out j (by omega), HQ2.out, HK.out, HB.out⟩
                  case measure => simp only [intOf]; omega
          · cases h2 : decide ((c.toNat : Int) ≤ 122)
            · have h3 : decide ((65 : Int) ≤ (c.toNat : Int)) = true := decide_eq_true (by have := of_decide_eq_true h1; omega)
              have h4 : decide ((c.toNat : Int) ≤ 90) = false := decide_eq_false (by have := of_decide_eq_true h1; omega)
              go_wp2
              go_roundw
              case rel => exact ⟨k + 1, r, by go_num, hlt, HC.out, fun j hj => HF.out j (by omega), HQ2.out, HK.out, HB.out⟩
              case measure => simp only [intOf]; omega
            · have h3 : decide ((65 : Int) ≤ (c.toNat : Int)) = true := decide_eq_true (by have := of_decide_eq_true h1; omega)
              have h4 : decide ((c.toNat : Int) ≤ 90) = false := decide_eq_false (by have := of_decide_eq_true h1; omega)
              by_cases htm : k < m
              · obtain ⟨b, off, rfl, hbl, hf⟩ := HT.out (by omega)
                have cf := keepcell HB.out (keepcell HBW.out (hf k htm))
                have htmi : (k : Int) < (m : Int) := by omega
                have htd : decide ((k : Int) < (m : Int)) = true := decide_eq_true htmi
                cases hfk : f k
                · rw [hfk] at cf
                  clear hf
                  go_wp2
                  go_roundw
                  case rel => exact ⟨k + 1, r, by go_num, hlt, HC.out, fun j hj => HF.out j (by omega), HQ2.out, HK.out, HB.out⟩
                  case measure => simp only [intOf]; omega
                · rw [hfk] at cf
                  clear hf
                  have fz := HK.out.free k (by rw [HLR.out]; exact hlt)
                  have hx := bits_of c
                  have HS := Lib.hid (HK.out.set k (c ^^^ 32))
                  have HC2 := Lib.hid (HC.out.set k c HCK.out (by unfold ltrN; simp only [h1, h2, h3, h4]; rfl))
                  have HF2 := Lib.hid (show ∀ j, k + 1 ≤ j → (r.set k (c ^^^ 32))[j]? = (lst s)[j]? from fun j hj => by
                    rw [List.getElem?_set_ne (by omega)]
                    exact HF.out j (by omega))
                  have HBS := Lib.hid (HB.out.setCell (p := ⟨w1.heap.size, k, none⟩) (Nat.le_refl _) (.int .u8 ((c ^^^ 32).toNat : Int)))
                  go_wp2
                  go_roundw
                  case rel => exact ⟨k + 1, r.set k (c ^^^ 32), by go_num, hlt, HC2.out, HF2.out, HQ2.out, HS.out, HBS.out⟩
                  case measure => simp only [intOf]; omega
              · have htmi : ¬ (k : Int) < (m : Int) := by omega
                have htd : decide ((k : Int) < (m : Int)) = false := decide_eq_false htmi
                go_wp2
                go_roundw
                case rel => exact ⟨k + 1, r, by go_num, hlt, HC.out, fun j hj => HF.out j (by omega), HQ2.out, HK.out, HB.out⟩
                case measure => simp only [intOf]; omega
      · obtain rfl : k = s.size := by omega
        have hlt2 : ¬ ((s.size : Int) < (s.size : Int)) := by omega
        have hb := HK.out.back (cap := cap) HLR.out
        have HQA := Lib.hid (show ∀ c ∈ lst s, c ≠ 39 from fun c hc e => by
          obtain ⟨j, hj, he⟩ := List.getElem_of_mem hc
          exact HQ.out j (by rw [← HL.out]; exact hj) (by rw [List.getElem?_eq_getElem hj, he, e]))
        have CT := Lib.hid (CT.out r HC.out HQA.out)
        have B1 := Lib.hid (B1.out.trans (HB.out.mono B1.out.size))
        obtain ⟨q, hq⟩ : ∃ q : ByteArray, (⟨r.toArray⟩ : ByteArray) = q := ⟨_, rfl⟩
        rw [hq] at hb CT
        clear hq HQA HC HF HQ HT
        go_wp2_with fail
        refine (CT.out _ (HE.out.below B1.out)).mono ?_
        rintro e w2 ⟨vw2, rfl, hO, hb⟩
        obtain ⟨Aw2, cw2, rfl, hT, -⟩ := OT.tks hO
        have B1 := Lib.hid (B1.out.trans (hb.mono B1.out.size))
        have HT2 := Lib.hid hT
        clear hb hO hT
        go_wp2_with fail
        refine (CU.out _ (HE.out.below B1.out)).mono ?_
        rintro e w3 ⟨vw3, rfl, hO, hb⟩
        obtain ⟨Aw3, cw3, rfl, hT, -⟩ := OT.tks hO
        have B1 := Lib.hid (B1.out.trans (hb.mono B1.out.size))
        have HT3 := Lib.hid hT
        have HT2 := Lib.hid (HT2.out.below hb)
        clear hb hO hT
        have CS := Lib.hid (show Calls Tryd.prog 13 #[.slice Aw2 T.length cw2, .slice Aw3 T.length cw3, .int .i64 0] w3 fun e w' => e = .returned (.bool true) ∧ Below w3.heap.size w3 w' by
          have h := same_any Aw2 Aw3 T.length T.length cw2 cw3 0 T T w3 HT2.out HT3.out HBD.out.2 HBD.out.1 (by decide)
          rw [shf_zero] at h
          exact h)
        clear HT2 HT3 CT CU
        go_wp2_with fail
        refine (CS.out).mono ?_
        rintro e w4 ⟨rfl, hb⟩
        have B1 := Lib.hid (B1.out.trans (hb.mono B1.out.size))
        clear hb
        go_wp2
        go_ret
        exact ⟨rfl, B1.out⟩
end Go.Proofs.YtdkkflmhpncglaaDoor
