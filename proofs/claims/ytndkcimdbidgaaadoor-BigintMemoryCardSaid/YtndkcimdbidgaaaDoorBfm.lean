/- The decimal text of an integer of any size. -/
import Derived.Test.YtndkcimdbidgaaaDoorBfp
import Derived.Test.YtndkcimdbidgaaaDoorBfv
import Derived.Test.YtndkcimdbidgaaaDoorBbu
import Derived.Test.YtndkcimdbidgaaaDoorBdd
import Derived.Test.YtndkcimdbidgaaaDoorBsg
import Derived.Test.YtndkcimdbidgaaaDoorShelf
namespace Go.Proofs.YtndkcimdbidgaaaDoor
open Go.ChangeShapes Go.WideShapes Go.ChangeAt Go.RowKit Go.ChangeMaps

open Lib Go.Sort
theorem EnvB.below {w w' : World} (h : EnvB w) (hb : Below w.heap.size w w') : EnvB w' := Joins.tab_stays (g := 0) (by kernel_rfl) h hb (Nat.le_refl _)
theorem below_grownBy {w w' : World} (h : Below w.heap.size w w') : w.grownBy w' none := ⟨h.os, h.tape, h.output, h.size, fun k hk _ => h.block k hk⟩
theorem own_belowX {B e size n : Nat} {v : Value} {xs : List Value} {w w' : World} (h : w.ownsRow B e size v n xs) (hb : Below w.heap.size w w') : w'.ownsRow B e size v n xs :=
  h.kept (row := none) (below_grownBy hb) (by cases v.ownBlock <;> simp)
def DX (w : World) (base : Nat) (A : Option Addr) (n : Nat) : Prop := ∀ b off, A = some ⟨b, off, none⟩ → 0 < n → b < base ∨ ∃ cs, Blk w b 47 cs
theorem DG.grown {w w' : World} {base n c m : Nat} {A B : Option Addr} {D : List Nat} {xs : List Value} (h : DG w A n D) (hx : DX w base A n) (ho : w.ownsRow base 9 1 (.slice B m c) m xs) (hg : w.grownBy w' (Value.slice B m c).ownBlock) : DG w' A n D ∧ DX w' base A n := by
  have ne : ∀ b off, A = some ⟨b, off, none⟩ → 0 < n → some b ≠ (Value.slice B m c).ownBlock := by
    intro b off e hn he
    rcases ho.2 with ⟨e2, _⟩ | ⟨g, cap, cur, e2, hg2, hh, _⟩
    · injection e2 with e2
      subst e2
      simp [Value.ownBlock] at he
    · rw [e2] at he
      simp [Value.ownBlock] at he
      subst he
      rcases hx b off e hn with h1 | ⟨cs, h1⟩
      · omega
      · have := h1.symm.trans hh
        injection this with this
        injection this with _ this
        exact absurd this (by decide)
  refine ⟨⟨h.1, h.2.1, fun hn => ?_⟩, fun b off e hn => ?_⟩
  · obtain ⟨b, off, e, hl, hc⟩ := h.2.2 hn
    refine ⟨b, off, e, Nat.lt_of_lt_of_le hl hg.size, fun j d hj => ?_⟩
    exact hg.cell (hc j d hj) (ne b off e hn)
  · rcases hx b off e hn with h1 | ⟨cs, h1⟩
    · exact .inl h1
    · exact .inr ⟨cs, (hg.block b (show Blk w b 47 cs from h1).lt (ne b off e hn)).trans h1⟩
theorem DX.below {w w' : World} {base n : Nat} {A : Option Addr} (h : DX w base A n) (hb : Below w.heap.size w w') : DX w' base A n := fun b off e hn => (h b off e hn).imp id (fun ⟨cs, hc⟩ => ⟨cs, hc.below hb⟩)
theorem rep48 : ∀ p, Lib.repeatL [48] p = List.replicate p 48
  | 0 => rfl
  | p + 1 => by rw [Lib.repeatL, List.replicate_succ, rep48 p]; rfl
def sLen : Value → Nat
  | .slice _ n _ => n
  | _ => 0
def strs (C : List (List UInt8)) : List Value := C.map fun l => Value.string ⟨l.toArray⟩
theorem strs_len (C : List (List UInt8)) : (strs C).length = C.length := by simp [strs]
theorem strs_get {C : List (List UInt8)} {i : Nat} {l : List UInt8} (h : C[i]? = some l) : (strs C)[i]? = some (.string ⟨l.toArray⟩) := by simp [strs, h]
theorem pieces_len : ∀ (n v : Nat), v < 1000000000 ^ n → (pieces v).length ≤ n
  | 0, v, h => by
    obtain rfl : v = 0 := by simp at h; omega
    rw [pieces_zero]; exact Nat.le_refl _
  | n + 1, v, h => by
    by_cases h0 : v = 0
    · subst h0; rw [pieces_zero]; exact Nat.zero_le _
    · rw [pieces_step h0, List.length_cons]
      have := pieces_len n (v / 1000000000) (by rw [Nat.pow_succ] at h; exact Nat.div_lt_of_lt_mul (by rw [Nat.mul_comm]; exact h))
      omega
theorem decD_len : ∀ (k v : Nat), v < 10 ^ (k + 1) → (decDigits v).length ≤ k + 1
  | 0, v, h => by rw [decDigits, dif_pos (by simpa using h)]; exact Nat.le_refl _
  | k + 1, v, h => by
    by_cases h3 : v < 10
    · rw [decDigits, dif_pos h3]; simp
    · rw [decDigits, dif_neg h3, List.length_append]
      have := decD_len k (v / 10) (by rw [Nat.pow_succ] at h; omega)
      simp
      omega
theorem lastD_le (k r : Nat) : (lastD k r).length ≤ k := by rw [lastD_len]; exact Nat.le_refl _
theorem pieces_each (v : Nat) : ∀ l ∈ pieces v, l.length ≤ 9 := by
  induction v using Nat.strongRecOn with
  | _ v ih =>
    intro l hl
    by_cases h0 : v = 0
    · subst h0; rw [pieces_zero] at hl; cases hl
    · rw [pieces_step h0] at hl
      rcases List.mem_cons.1 hl with e | e
      · subst e
        split
        · exact decD_len 8 _ (Nat.mod_lt _ (by decide))
        · exact lastD_le _ _
      · exact ih _ (by omega) l e
set_option maxRecDepth 100000 in
set_option maxHeartbeats 4000000 in
theorem Format_any (v : Value) (z : Int) (N : Nat) (w : World) (h : BG w v z N) (hN : N ≤ 100) (hE : EnvB w) : Calls Tryd.prog 39 #[v] w fun e w' => e = .returned (.string ⟨(fmtZ z).toArray⟩) ∧ Below w.heap.size w w' := by
  obtain ⟨neg, A, n, c, D, rfl, hd, hs, hn, hz⟩ := h
  obtain ⟨i0, hi, hz0, hz1, hz2⟩ := info_parts (show (Tryd.prog.info? 9).map (fun i => (i.zero, i.size, i.bytes)) = some (some (.string ⟨#[]⟩), 1, 16) by kernel_rfl)
  obtain ⟨W0, hW0⟩ : ∃ W, W = w.alloc (.cells #[.bool neg, .slice A n c] 24) := ⟨_, rfl⟩
  have HB := Lib.hid (show Below w.heap.size w W0 by rw [hW0]; exact (Below.refl _ w).alloc (Nat.le_refl _) _)
  have HK := Lib.hid (show Blk W0 w.heap.size 24 #[.bool neg, .slice A n c] by rw [hW0]; exact Blk.new _ _ _)
  have HD := Lib.hid (hd.below HB.out)
  have CT := Lib.hid (trim_any A n c D W0 HD.out hs)
  have HE := Lib.hid (hE.below HB.out)
  have HS := Lib.hid hs
  have HZ := Lib.hid hz
  have HL := hd.1
  have hkb : w.heap.size < W0.heap.size := HK.out.lt
  clear hd hs hz hE
  have k0 : W0.cell? ⟨w.heap.size, 1, none⟩ = some (.slice A n c) := HK.out.cell 1
  obtain ⟨g0, hg0⟩ : ∃ g, w.heap.size = g := ⟨_, rfl⟩
  have HG0 := Lib.hid hg0
  go_enter Tryd.func39, Tryd.ntmps39
  go_wp2_with fail
  rw [← hW0]
  clear hW0
  refine CT.out.mono ?_
  rintro e w1 ⟨k, rfl, ht, hy⟩
  replace hy := hy.symm
  subst hy
  have HT := Lib.hid ht
  have HDk := Lib.hid (HD.out.take (show k ≤ n by have := ht.1; omega))
  have hkn : k ≤ n := by have := ht.1; omega
  have HSk := Lib.hid (HS.out.take hkn)
  have HTn := Lib.hid ht.nmz
  have HDX := Lib.hid (show DX W0 W0.heap.size A k from fun b off e hk => by
    obtain ⟨b', off', e', hl, _⟩ := HDk.out.2.2 hk
    rw [e] at e'
    injection e' with e'
    injection e' with e'
    subst e'
    exact hl |> Or.inl)
  clear ht CT
  by_cases hk : k = 0
  · have hk1 : ((k : Int) == 0) = true := by simp [hk]
    have HF := Lib.hid (show fmtZ z = [48] by
      have h1 := HT.out.dv 4294967296
      rw [hk] at h1
      simp only [List.take_zero] at h1
      rw [HZ.out, ← h1]
      show fmtZ (sgn neg 0) = _
      rw [sgn_zero]
      decide +kernel)
    clear hk
    go_wp2
    go_ret
    rw [HF.out]
    exact ⟨rfl, HB.out⟩
  · have hk1 : ((k : Int) == 0) = false := by simp; omega
    obtain ⟨m, hm⟩ : ∃ m, dv 4294967296 D = m := ⟨_, rfl⟩
    have HM := Lib.hid (show dv 4294967296 (D.take k) = m by rw [HT.out.dv]; exact hm)
    have hm0 : m ≠ 0 := by
      rw [← HM.out]
      intro e
      have h1 := (nmz_zero (by decide) _ HT.out.nmz).1 e
      have h2 := congrArg List.length h1
      rw [HDk.out.1] at h2
      exact hk h2
    have hneg : decide (z < 0) = neg := by rw [HZ.out, hm]; exact sgn_neg hm0
    have habs : z.natAbs = m := by rw [HZ.out, hm]; exact sgn_abs _ _
    have hml : m < 1000000000 ^ 200 := by
      have h1 := dv_lt (by decide) _ HDk.out.2.1
      rw [HM.out, HDk.out.1] at h1
      have h2 : (4294967296 : Nat) ^ k ≤ 4294967296 ^ 100 := Nat.pow_le_pow_right (by decide) (by omega)
      have h3 : (4294967296 : Nat) ^ 100 < 1000000000 ^ 200 := by decide +kernel
      omega
    have hpl := pieces_len 200 m hml
    have HF := Lib.hid (show fmtZ z = (if neg = true then 45 :: decDigits m else decDigits m) by
      unfold fmtZ
      rw [habs]
      rw [← hneg]
      by_cases hh : z < 0
      · rw [if_pos hh, if_pos (by simpa using hh)]
      · rw [if_neg hh, if_neg (by simpa using hh)])
    have HM0 := Lib.hid hm0
    obtain ⟨K, hK⟩ : ∃ K, (pieces m).length = K := ⟨_, rfl⟩
    have HKK := Lib.hid hK
    rw [hK] at hpl
    have HKN := Lib.hid hk
    clear hk hm hneg habs hml hK hm0 HZ HT HL
    go_wp2_with fail
    go_loopw [3, 4] (fun s3 s4 wr => ∃ (A : Option Addr) (n c : Nat) (D : List Nat) (C : List (List UInt8)) (A4 : Option Addr) (c4 : Nat), s3 = .slice A n c ∧ DG wr A n D ∧ DX wr W0.heap.size A n ∧ Sl A n c ∧ nmz D ∧ n ≤ 100 ∧ s4 = .slice A4 C.length c4 ∧ wr.ownsRow W0.heap.size 9 1 (.slice A4 C.length c4) C.length (strs C) ∧ pieces m = C ++ pieces (dv 4294967296 D) ∧ (n = 0 → C ≠ []) ∧ Below W0.heap.size W0 wr) (fun _ s4 _ => K - sLen s4)
    case atStart => exact ⟨A, k, c, D.take k, [], none, 0, rfl, HDk.out, HDX.out, HSk.out, HTn.out, by omega, rfl, World.ownsRow_nil _ _ _ _, by rw [HM.out]; rfl, fun h => absurd h HKN.out, Below.refl _ _⟩
    case round =>
      obtain ⟨A1, n1, c1, D1, C, A4, c4, rfl, hd1, hdx, hs1, hnm, hn1, rfl, ho, hpc, hc0, hb⟩ := hrel
      have HD1 := Lib.hid hd1
      have HS1 := Lib.hid hs1
      have HNM := Lib.hid hnm
      have HO := Lib.hid ho
      have HPC := Lib.hid hpc
      have HC0 := Lib.hid hc0
      have HBW := Lib.hid hb
      have HL1 := hd1.1
      clear hd1 hs1 hnm ho hpc hc0 hb HDk HSk HD HS HTn
      by_cases h1 : n1 = 0
      · obtain ⟨wq, rfl⟩ : ∃ x, x = wr := ⟨_, rfl⟩
        have hp : ¬ (0 : Int) < (n1 : Int) := by omega
        have HC := Lib.hid (show pieces m = C by
          rw [HPC.out]
          have : D1 = [] := List.eq_nil_of_length_eq_zero (by rw [HL1, h1])
          rw [this, show dv 4294967296 [] = 0 from rfl, pieces_zero, List.append_nil])
        have HT2 := Lib.hid (show (if neg = true then [45] else []) ++ (C.drop 0).reverse.flatten = fmtZ z by
          rw [HF.out, List.drop_zero, ← HC.out, pieces_text m HM0.out]
          cases neg <;> rfl)
        have hCl : C.length ≤ 200 := by rw [← HC.out, HKK.out]; exact hpl
        have HCE := Lib.hid (show ∀ l ∈ C, l.length ≤ 9 by rw [← HC.out]; exact pieces_each m)
        have hC0 : 0 < C.length := by
          rcases Nat.eq_zero_or_pos C.length with e | e
          · exact absurd (List.eq_nil_of_length_eq_zero e) (HC0.out h1)
          · exact e
        obtain ⟨gs, rfl⟩ : ∃ gs, A4 = some ⟨gs, 0, none⟩ := by
          rcases HO.out.2 with ⟨_, e2⟩ | ⟨g, cap, cur, e, _⟩
          · omega
          · injection e with e; exact ⟨g, e⟩
        have HBS := Lib.hid (HB.out.trans (HBW.out.mono HB.out.size))
        have HKr := Lib.hid (HK.out.below HBW.out)
        have F0 := Lib.hid (Lib.fresh_isBuilder 72 5 wq)
        obtain ⟨W2, hW2⟩ : ∃ W, W = wq.alloc (.cells #[.pointer none, .slice none 0 0] 72) := ⟨_, rfl⟩
        have HB2 := Lib.hid (show Below wq.heap.size wq W2 by rw [hW2]; exact (Below.refl _ _).alloc (Nat.le_refl _) _)
        have kn0 : W2.cell? ⟨w.heap.size, 0, none⟩ = some (.bool neg) := (HKr.out.below HB2.out).cell 0
        rw [← hW2] at F0
        obtain ⟨B, hBB⟩ : ∃ B, wq.heap.size = B := ⟨_, rfl⟩
        have HBB := Lib.hid hBB
        have hW2s : B ≤ W2.heap.size := by have := HB2.out.size; omega
        have HBW2 := Lib.hid hW2s
        clear h1
        rcases Bool.eq_false_or_eq_true neg with hng | hng
        · subst hng
          rw [hBB] at F0
          have CW := Lib.hid (WriteByte_any B B [] 45 W2 F0.out (by simp) hW2s)
          rw [hg0, hW2] at kn0
          go_wp2_with fail
          rw [← hW2]
          try rw [hBB]
          clear hW2 kn0
          refine CW.out.mono ?_
          rintro e w3 ⟨rfl, hbd, hb3⟩
          have HBD := Lib.hid (show Lib.IsBuilder 72 5 B B (Lib.byteCells [45]) w3 from .inr hbd)
          have HBX := Lib.hid (show Below B wq w3 from by rw [← hBB]; exact HB2.out.trans (by rw [hBB]; exact hb3))
          have HTX := Lib.hid (show [45] ++ (C.drop 0).reverse.flatten = fmtZ z from HT2.out)
          have HB3s := Lib.hid hb3.size
          clear hbd hb3 hBB hW2s
          go_wp2_with fail
          have HBw2 := Lib.hid (Nat.le_trans HBW2.out HB3s.out)

          go_loopw [9] (fun s9 wr => ∃ (k : Nat) (x : Int), s9 = .int .i64 x ∧ x = (k : Int) - 1 ∧ k ≤ C.length ∧ Lib.IsBuilder 72 5 B B (Lib.byteCells ([45] ++ (C.drop k).reverse.flatten)) wr ∧ Below B w3 wr) (fun s9 _ => (RowKit.intOf s9 + 1).toNat)
          case atStart => exact ⟨C.length, _, rfl, rfl, Nat.le_refl _, by rw [List.drop_length]; exact HBD.out, Below.refl _ _⟩
          case round =>
            obtain ⟨k, x, rfl, hx, hkC, hbd, hbx⟩ := hrel
            have HBd := Lib.hid hbd
            have HBx := Lib.hid hbx
            have HBr := Lib.hid (HBX.out.trans hbx)
            have HFL := Lib.hid (show ∀ j, j ≤ C.length → ([45] ++ (C.drop j).reverse.flatten).length ≤ 2000 from fun j _ => by
              have h1 : ∀ (L : List (List UInt8)), (∀ l ∈ L, l.length ≤ 9) → L.flatten.length ≤ 9 * L.length := by
                intro L
                induction L with
                | nil => intro _; simp
                | cons a L ih =>
                  intro h
                  have := ih (fun l hl => h l (by simp [hl]))
                  have := h a (by simp)
                  rw [List.flatten_cons, List.length_append, List.length_cons]
                  omega
              have h2 := h1 (C.drop j).reverse (fun l hl => HCE.out l (List.mem_of_mem_drop (List.mem_reverse.1 hl)))
              rw [List.length_reverse, List.length_drop] at h2
              rw [List.length_append]
              simp only [List.length_cons, List.length_nil]
              omega)
            clear hbd hbx
            rcases Nat.eq_zero_or_pos k with h0 | h0
            · subst h0
              obtain rfl : x = -1 := by omega
              clear hx
              have HQ := Lib.hid HBd.out
              rw [HTX.out] at HQ
              have CS := Lib.hid (Tryd.Builder_String_any B B (fmtZ z) wr HQ.out (Nat.le_trans HBw2.out HBx.out.size))
              go_wp2_with fail
              refine CS.out.mono ?_
              rintro e w5 ⟨rfl, hb5⟩
              have HB5 := Lib.hid (HBS.out.trans ((HBr.out.trans hb5).mono (by have := HBS.out.size; have := HBB.out; omega)))
              clear hb5
              go_wp2
              go_ret
              exact ⟨rfl, HB5.out⟩
            · obtain ⟨j, rfl⟩ : ∃ j, k = j + 1 := ⟨k - 1, by omega⟩
              obtain rfl : x = (j : Int) := by omega
              clear hx h0
              have hjC : j < C.length := by omega
              have hjI : (j : Int) < (C.length : Int) := by omega
              have hj0 : ¬ (j : Int) < 0 := by omega
              have hjg : (0 : Int) ≤ (j : Int) := by omega
              obtain ⟨l, hl⟩ : ∃ l, C[j]? = some l := ⟨_, List.getElem?_eq_getElem hjC⟩
              have hOx := own_belowX HO.out (w' := wr) (by rw [HBB.out]; exact HBr.out)
              have hcell := hOx.cellAt j (by omega)
              rw [strs_get hl] at hcell
              have hll := HCE.out l (List.mem_of_getElem? hl)
              obtain ⟨u, hu⟩ : ∃ u : ByteArray, (⟨l.toArray⟩ : ByteArray) = u := ⟨_, rfl⟩
              have hul : u.data.toList = l := by rw [← hu]
              have hus : u.size ≤ 9 := by
                have : u.data.toList.length = u.size := by simp
                rw [hul] at this
                omega
              rw [hu] at hcell
              have hf := HFL.out (j + 1) hkC
              have CW := Lib.hid (WriteString_any B B _ u wr HBd.out (by rw [Lib.byteCells_length]; omega) (Nat.le_trans HBw2.out HBx.out.size))
              have HST := Lib.hid (show Lib.byteCells ([45] ++ (C.drop (j + 1)).reverse.flatten) ++ Lib.strCells u = Lib.byteCells ([45] ++ (C.drop j).reverse.flatten) by
                rw [List.drop_eq_getElem_cons hjC, List.reverse_cons, List.flatten_append, Lib.strCells_eq, hul]
                have : C[j] = l := by
                  have := List.getElem?_eq_getElem hjC
                  rw [hl] at this
                  injection this with this
                  exact this.symm
                rw [this]
                simp [Lib.byteCells])
              clear hl hOx hll hu hul hf
              go_wp2_with fail
              refine CW.out.mono ?_
              rintro e w5 ⟨rfl, hbd5, hb5⟩
              have HD5 := Lib.hid (show Lib.IsBuilder 72 5 B B (Lib.byteCells ([45] ++ (C.drop j).reverse.flatten)) w5 from by rw [← HST.out]; exact .inr hbd5)
              have HB5 := Lib.hid (HBx.out.trans hb5)
              clear hbd5 hb5
              go_wp2
              go_roundw
              case rel => exact ⟨j, (j : Int) - 1, rfl, rfl, by omega, HD5.out, HB5.out⟩
              case measure => simp only [RowKit.intOf]; omega
        · subst hng
          rw [hBB] at F0
          have HBD := Lib.hid (show Lib.IsBuilder 72 5 B B (Lib.byteCells []) W2 from F0.out)
          have HBX := Lib.hid (show Below B wq W2 from by rw [← hBB]; exact HB2.out)
          have HTX := Lib.hid (show [] ++ (C.drop 0).reverse.flatten = fmtZ z from HT2.out)
          rw [hg0, hW2] at kn0
          go_wp2_with fail
          rw [← hW2]
          try rw [hBB]
          clear hW2 kn0 hBB hW2s
          have HBw2 := HBW2

          go_loopw [9] (fun s9 wr => ∃ (k : Nat) (x : Int), s9 = .int .i64 x ∧ x = (k : Int) - 1 ∧ k ≤ C.length ∧ Lib.IsBuilder 72 5 B B (Lib.byteCells ([] ++ (C.drop k).reverse.flatten)) wr ∧ Below B W2 wr) (fun s9 _ => (RowKit.intOf s9 + 1).toNat)
          case atStart => exact ⟨C.length, _, rfl, rfl, Nat.le_refl _, by rw [List.drop_length]; exact HBD.out, Below.refl _ _⟩
          case round =>
            obtain ⟨k, x, rfl, hx, hkC, hbd, hbx⟩ := hrel
            have HBd := Lib.hid hbd
            have HBx := Lib.hid hbx
            have HBr := Lib.hid (HBX.out.trans hbx)
            have HFL := Lib.hid (show ∀ j, j ≤ C.length → ([] ++ (C.drop j).reverse.flatten).length ≤ 2000 from fun j _ => by
              have h1 : ∀ (L : List (List UInt8)), (∀ l ∈ L, l.length ≤ 9) → L.flatten.length ≤ 9 * L.length := by
                intro L
                induction L with
                | nil => intro _; simp
                | cons a L ih =>
                  intro h
                  have := ih (fun l hl => h l (by simp [hl]))
                  have := h a (by simp)
                  rw [List.flatten_cons, List.length_append, List.length_cons]
                  omega
              have h2 := h1 (C.drop j).reverse (fun l hl => HCE.out l (List.mem_of_mem_drop (List.mem_reverse.1 hl)))
              rw [List.length_reverse, List.length_drop] at h2
              rw [List.length_append]
              simp only [List.length_nil]
              omega)
            clear hbd hbx
            rcases Nat.eq_zero_or_pos k with h0 | h0
            · subst h0
              obtain rfl : x = -1 := by omega
              clear hx
              have HQ := Lib.hid HBd.out
              rw [HTX.out] at HQ
              have CS := Lib.hid (Tryd.Builder_String_any B B (fmtZ z) wr HQ.out (Nat.le_trans HBw2.out HBx.out.size))
              go_wp2_with fail
              refine CS.out.mono ?_
              rintro e w5 ⟨rfl, hb5⟩
              have HB5 := Lib.hid (HBS.out.trans ((HBr.out.trans hb5).mono (by have := HBS.out.size; have := HBB.out; omega)))
              clear hb5
              go_wp2
              go_ret
              exact ⟨rfl, HB5.out⟩
            · obtain ⟨j, rfl⟩ : ∃ j, k = j + 1 := ⟨k - 1, by omega⟩
              obtain rfl : x = (j : Int) := by omega
              clear hx h0
              have hjC : j < C.length := by omega
              have hjI : (j : Int) < (C.length : Int) := by omega
              have hj0 : ¬ (j : Int) < 0 := by omega
              have hjg : (0 : Int) ≤ (j : Int) := by omega
              obtain ⟨l, hl⟩ : ∃ l, C[j]? = some l := ⟨_, List.getElem?_eq_getElem hjC⟩
              have hOx := own_belowX HO.out (w' := wr) (by rw [HBB.out]; exact HBr.out)
              have hcell := hOx.cellAt j (by omega)
              rw [strs_get hl] at hcell
              have hll := HCE.out l (List.mem_of_getElem? hl)
              obtain ⟨u, hu⟩ : ∃ u : ByteArray, (⟨l.toArray⟩ : ByteArray) = u := ⟨_, rfl⟩
              have hul : u.data.toList = l := by rw [← hu]
              have hus : u.size ≤ 9 := by
                have : u.data.toList.length = u.size := by simp
                rw [hul] at this
                omega
              rw [hu] at hcell
              have hf := HFL.out (j + 1) hkC
              have CW := Lib.hid (WriteString_any B B _ u wr HBd.out (by rw [Lib.byteCells_length]; omega) (Nat.le_trans HBw2.out HBx.out.size))
              have HST := Lib.hid (show Lib.byteCells ([] ++ (C.drop (j + 1)).reverse.flatten) ++ Lib.strCells u = Lib.byteCells ([] ++ (C.drop j).reverse.flatten) by
                rw [List.drop_eq_getElem_cons hjC, List.reverse_cons, List.flatten_append, Lib.strCells_eq, hul]
                have : C[j] = l := by
                  have := List.getElem?_eq_getElem hjC
                  rw [hl] at this
                  injection this with this
                  exact this.symm
                rw [this]
                simp [Lib.byteCells])
              clear hl hOx hll hu hul hf
              go_wp2_with fail
              refine CW.out.mono ?_
              rintro e w5 ⟨rfl, hbd5, hb5⟩
              have HD5 := Lib.hid (show Lib.IsBuilder 72 5 B B (Lib.byteCells ([] ++ (C.drop j).reverse.flatten)) w5 from by rw [← HST.out]; exact .inr hbd5)
              have HB5 := Lib.hid (HBx.out.trans hb5)
              clear hbd5 hb5
              go_wp2
              go_roundw
              case rel => exact ⟨j, (j : Int) - 1, rfl, rfl, by omega, HD5.out, HB5.out⟩
              case measure => simp only [RowKit.intOf]; omega
      · have hp : (0 : Int) < (n1 : Int) := by omega
        obtain ⟨x, hx⟩ : ∃ x, dv 4294967296 D1 = x := ⟨_, rfl⟩
        have hx0 : x ≠ 0 := by
          intro e
          have h2 := (nmz_zero (by decide) _ HNM.out).1 (hx.trans e)
          rw [h2] at HL1
          simp at HL1
          omega
        have CD := Lib.hid (divDigit_any A1 n1 c1 D1 1000000000 wr HD1.out (by omega) (by decide) (by decide))
        rw [hx] at CD
        have HX0 := Lib.hid hx0
        have HX := Lib.hid hx
        clear hx hx0
        go_wp2_with fail
        refine CD.out.mono ?_
        rintro e w2 ⟨g, Q, r, rfl, hkq, hgq, hdq, hdv, hrb, hql, hb2⟩
        have hkQ := Lib.hid hkq
        have HKQ := Lib.hid (Own.of_blk hkq (Nat.le_refl g) hdq)
        have CT := Lib.hid (trim_any (some ⟨g, 0, none⟩) Q.length Q.length Q w2 HKQ.out.dg (Sl.own (Nat.le_refl _) (by omega)))
        have HDV := Lib.hid hdv
        have HRB := Lib.hid hrb
        have HQL := Lib.hid hql
        have HB2 := Lib.hid (HBW.out.trans (hb2.mono HBW.out.size))
        have HE2 := Lib.hid ((HE.out.below HBW.out).below hb2)
        have HO2 := Lib.hid (own_belowX HO.out hb2)
        have hrI : (r : Int) < 1000000000 := by omega
        clear hkq hgq hdq hdv hql hb2 CD
        go_wp2_with fail
        refine CT.out.mono ?_
        rintro e w3 ⟨k3, rfl, ht, hy⟩
        replace hy := hy.symm
        subst hy
        have HT3 := Lib.hid ht
        have hk3 : k3 ≤ Q.length := ht.1
        have CF := Lib.hid (FormatUint_any r (by omega) w2 HE2.out)
        clear ht CT
        go_wp2_with fail
        refine CF.out.mono ?_
        rintro e w4 ⟨rfl, hb4⟩
        have HB4 := Lib.hid (HB2.out.trans (hb4.mono HB2.out.size))
        have HO4 := Lib.hid (own_belowX HO2.out hb4)
        have HD4 := Lib.hid ((HKQ.out.dg.take hk3).below hb4)
        have HX4 := Lib.hid (DX.below (show DX w2 W0.heap.size (some ⟨g, 0, none⟩) k3 from fun b off e _ => by injection e with e; injection e with e; subst e; exact .inr ⟨_, hkQ.out⟩) hb4)
        obtain ⟨y, hy⟩ : ∃ y, dv 4294967296 (Q.take k3) = y := ⟨_, rfl⟩
        have hyx : x = y * 1000000000 + r := by rw [← hy, HT3.out.dv]; exact HDV.out
        have hyd : x / 1000000000 = y := by omega
        have hyr : x % 1000000000 = r := by omega
        have hps := pieces_step HX0.out
        rw [hyd, hyr] at hps
        have HY0 := Lib.hid (show k3 = 0 ↔ y = 0 by
          rw [← hy, nmz_zero (by decide) _ HT3.out.nmz]
          constructor
          · intro e; rw [e]; rfl
          · intro e
            have := congrArg List.length e
            rw [List.length_take] at this
            simp at this
            rcases this with h | h
            · exact h
            · subst h; simp at hk3; omega)
        have hdl := decD_len 8 r (by have := HRB.out; omega)
        have hne : (decDigits r).length ≤ 9 := hdl
        obtain ⟨t, htt⟩ : ∃ t : ByteArray, (⟨(decDigits r).toArray⟩ : ByteArray) = t := ⟨_, rfl⟩
        have htl : t.data.toList = decDigits r := by rw [← htt]
        have hts : t.size = (decDigits r).length := by rw [← htl]; simp
        rw [htt]
        have HTL := Lib.hid htl
        have HTT := Lib.hid htt
        have hts9 : t.size ≤ 9 := by omega
        have HTS := Lib.hid hts
        have HY := Lib.hid hy
        have HPS := Lib.hid hps
        clear hrI hrb hb4 CF htl htt hts hdl hne hy hyx hyd hyr hps
        have HCK := Lib.hid (show C.length < K by
          have := congrArg List.length HPC.out
          rw [List.length_append, HX.out, HPS.out, HKK.out, List.length_cons] at this
          omega)
        have hCK := HCK.out
        have HAPP := Lib.hid (fun (u : ByteArray) (W : World) (hu : u.data.toList = if y = 0 then decDigits r else lastD 9 r) (hW : Below w4.heap.size w4 W) => show ∃ C2, pieces m = C2 ++ pieces (dv 4294967296 (Q.take k3)) ∧ (k3 = 0 → C2 ≠ []) ∧ C2.length = C.length + 1 ∧ strs C2 = strs C ++ [.string u] from by
          refine ⟨C ++ [u.data.toList], ?_, fun _ => by simp, by simp, by simp [strs]⟩
          rw [HPC.out, HX.out, HPS.out, HY.out, ← hu]
          simp)
        by_cases hk0 : k3 = 0
        · have HKZ := Lib.hid hk0
          clear hk0
          have hp3 : ¬ (0 : Int) < (k3 : Int) := by have := HKZ.out; omega
          have HAP := Lib.hid (HAPP.out t w4 (by rw [if_pos (HY0.out.1 HKZ.out)]; exact HTL.out) (Below.refl _ _))
          clear HAPP
          obtain ⟨W5, hW5⟩ : ∃ W, W = w4.alloc (.cells #[.string t] 9) := ⟨_, rfl⟩
          have HO5 := Lib.hid (show W5.ownsRow W0.heap.size 9 1 (.slice A4 C.length c4) C.length (strs C) by rw [hW5]; exact HO4.out.alloc _)
          have HB5 := Lib.hid (show Below W0.heap.size W0 W5 by rw [hW5]; exact HB4.out.alloc HB4.out.size _)
          have HD5 := Lib.hid (show Below w4.heap.size w4 W5 by rw [hW5]; exact (Below.refl _ _).alloc (Nat.le_refl _) _)
          have HN5 : Hid (Src Tryd.prog 1 64 (.slice (some ⟨w4.heap.size, 0, none⟩) 1 1) 1 [.string t] W5) := Lib.hid (src_blk (c := 1) Tryd.underlying64 rfl (by intro q hq; obtain rfl : q = .string t := (by simpa using hq); rfl) (show Blk W5 w4.heap.size 9 [Value.string t].toArray by rw [hW5]; exact Blk.new _ _ _))
          subst hW5
          go_wp2_with (at_builtin; go_loud (refine wpList_append_src _ rfl _ _ 64 64 rfl W0.heap.size 9 i0 _ 1 16 Tryd.underlying64 hi hz0 hz1 hz2 rfl (.slice A4 C.length c4) C.length _ rfl HO5.out _ 1 _ rfl HN5.out ?c1 ?c2 HB5.out.size ?_))
          case c1 => unfold maxLen; omega
          case c2 => omega
          intro v' w6 own' hgr _
          obtain ⟨A6, a6, rfl, -⟩ := At.of_own own'
          have HB6 := Lib.hid (show Below W0.heap.size W0 w6 from HB5.out.grown hgr HB5.out.size (fun j hj => (HO5.out.lt j hj).1))
          have HDF := Lib.hid (DG.grown (HD4.out.below HD5.out) (HX4.out.below HD5.out) HO5.out hgr)
          have HOF := Lib.hid own'
          clear own' hgr
          go_wp2
          go_roundw
          case rel =>
            obtain ⟨C2, h1, h2, h3, h4⟩ := HAP.out
            refine ⟨some ⟨g, 0, none⟩, k3, Q.length, Q.take k3, C2, A6, a6, rfl, HDF.out.1, HDF.out.2, Sl.own hk3 (by have := HQL.out; omega), HT3.out.nmz, by have := HQL.out; omega, by rw [h3], ?_, h1, h2, HB6.out⟩
            rw [h3, h4]
            exact HOF.out
          case measure => simp only [sLen]; omega
        · have hp3 : (0 : Int) < (k3 : Int) := by omega
          have h9 : (9 : Int) - (t.size : Int) = ((9 - t.size : Nat) : Int) := by omega
          obtain ⟨p, hp9⟩ : ∃ p, 9 - t.size = p := ⟨_, rfl⟩
          rw [hp9] at h9
          have H9 := Lib.hid h9
          clear h9
          have CR := Lib.hid (Tryd.strings_Repeat ⟨#[48]⟩ p w4 (by omega) (by show 1 * p ≤ _; omega))
          have HP9 := Lib.hid hp9
          have hp9b : p ≤ 9 := by omega
          clear hp9
          go_wp2_with fail
          rw [H9.out]
          refine CR.out.mono ?_
          rintro e w5 ⟨rfl, hb5⟩
          obtain ⟨zs, hzs⟩ : ∃ zs : ByteArray, (⟨(Lib.repeatL (⟨#[48]⟩ : ByteArray).data.toList p).toArray⟩ : ByteArray) = zs := ⟨_, rfl⟩
          have hzl : zs.data.toList = List.replicate p 48 := by
            rw [← hzs]
            exact rep48 p
          have hzz : zs.size ≤ 9 := by
            have : zs.data.toList.length = zs.size := by simp
            rw [hzl, List.length_replicate] at this
            omega
          rw [hzs]
          have hsz : (zs ++ t).size ≤ 18 := by rw [ByteArray.size_append]; omega
          have HUL := Lib.hid (show (zs ++ t).data.toList = lastD 9 r by
            rw [ByteArray.data_append, Array.toList_append, hzl, HTL.out, lastD_pad 9 r (by have := HRB.out; omega) (by decide), ← HTS.out, HP9.out])
          have HB5' := Lib.hid (HB4.out.trans (hb5.mono HB4.out.size))
          have HO5' := Lib.hid (own_belowX HO4.out hb5)
          have hb5' := Lib.hid hb5
          replace HD4 := Lib.hid (HD4.out.below hb5)
          replace HX4 := Lib.hid (HX4.out.below hb5)
          clear hzs hzl hb5 CR
          obtain ⟨u, hu⟩ : ∃ u, zs ++ t = u := ⟨_, rfl⟩
          have HU := Lib.hid hu
          rw [hu] at HUL hsz
          have HAP := Lib.hid (HAPP.out u w5 (by rw [if_neg (fun e => hk0 (HY0.out.2 e))]; exact HUL.out) hb5'.out)
          clear HAPP
          obtain ⟨W5, hW5⟩ : ∃ W, W = w5.alloc (.cells #[.string u] 9) := ⟨_, rfl⟩
          have HO5 := Lib.hid (show W5.ownsRow W0.heap.size 9 1 (.slice A4 C.length c4) C.length (strs C) by rw [hW5]; exact HO5'.out.alloc _)
          have HB5 := Lib.hid (show Below W0.heap.size W0 W5 by rw [hW5]; exact HB5'.out.alloc HB5'.out.size _)
          have HD5 := Lib.hid (show Below w5.heap.size w5 W5 by rw [hW5]; exact (Below.refl _ _).alloc (Nat.le_refl _) _)
          have HN5 : Hid (Src Tryd.prog 1 64 (.slice (some ⟨w5.heap.size, 0, none⟩) 1 1) 1 [.string u] W5) := Lib.hid (src_blk (c := 1) Tryd.underlying64 rfl (by intro q hq; obtain rfl : q = .string u := (by simpa using hq); rfl) (show Blk W5 w5.heap.size 9 [Value.string u].toArray by rw [hW5]; exact Blk.new _ _ _))
          subst hW5
          go_wp2_with (at_builtin; go_loud (refine wpList_append_src _ rfl _ _ 64 64 rfl W0.heap.size 9 i0 _ 1 16 Tryd.underlying64 hi hz0 hz1 hz2 rfl (.slice A4 C.length c4) C.length _ rfl HO5.out _ 1 _ rfl HN5.out ?c1 ?c2 HB5.out.size ?_))
          case c1 => unfold maxLen; omega
          case c2 => omega
          intro v' w6 own' hgr _
          obtain ⟨A6, a6, rfl, -⟩ := At.of_own own'
          have HB6 := Lib.hid (show Below W0.heap.size W0 w6 from HB5.out.grown hgr HB5.out.size (fun j hj => (HO5.out.lt j hj).1))
          have HDF := Lib.hid (DG.grown (HD4.out.below HD5.out) (HX4.out.below HD5.out) HO5.out hgr)
          have HOF := Lib.hid own'
          clear own' hgr
          go_wp2
          go_roundw
          case rel =>
            obtain ⟨C2, h1, h2, h3, h4⟩ := HAP.out
            refine ⟨some ⟨g, 0, none⟩, k3, Q.length, Q.take k3, C2, A6, a6, rfl, HDF.out.1, HDF.out.2, Sl.own hk3 (by have := HQL.out; omega), HT3.out.nmz, by have := HQL.out; omega, by rw [h3], ?_, h1, h2, HB6.out⟩
            rw [h3, h4]
            exact HOF.out
          case measure => simp only [sLen]; omega
end Go.Proofs.YtndkcimdbidgaaaDoor
