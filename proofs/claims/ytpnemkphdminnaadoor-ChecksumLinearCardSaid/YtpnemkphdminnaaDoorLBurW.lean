/- Law ChecksumBurst: the walk. -/
import Derived.Test.YtpnemkphdminnaaDoorEqa
import Derived.Test.YtpnemkphdminnaaDoorBmt
import Derived.RegionTactic
namespace Go.Proofs.YtpnemkphdminnaaDoor
open Go.ChangeShapes Go.WideShapes Go.ChangeAt Go.RowKit Go.ChangeMaps

theorem own_ptr {w : World} {B n : Nat} {v : Value} {xs : List Value} (h : w.ownsRow B 5 1 v n xs) (h0 : 0 < n) : ∃ g cap, v = .slice (some ⟨g, 0, none⟩) n cap ∧ B ≤ g ∧ n ≤ cap ∧ cap ≤ 9223372036854775807 := by
  rcases h.2 with ⟨_, hl⟩ | ⟨g, cap, cur, rfl, hg, _, hnc, hcap, _, _⟩
  · omega
  · unfold maxLen at hcap; exact ⟨g, cap, rfl, hg, hnc, by omega⟩
theorem xor8 (a b : UInt8) : bits BinOp.xor IntKind.u8 (a.toNat : Int) (b.toNat : Int) = (((a ^^^ b).toNat : Nat) : Int) := by
  have ha := UInt8.toNat_lt a
  have hb := UInt8.toNat_lt b
  have h1 : (BitVec.ofInt 8 (a.toNat : Int)).toNat = a.toNat := by
    rw [BitVec.ofInt_natCast, BitVec.toNat_ofNat]; exact Nat.mod_eq_of_lt (by omega)
  have h2 : (BitVec.ofInt 8 (b.toNat : Int)).toNat = b.toNat := by
    rw [BitVec.ofInt_natCast, BitVec.toNat_ofNat]; exact Nat.mod_eq_of_lt (by omega)
  have hx : a.toNat ^^^ b.toNat < 2 ^ 8 := Nat.xor_lt_two_pow (by omega) (by omega)
  show IntKind.u8.wrap ((BitVec.ofInt 8 (a.toNat : Int) ^^^ BitVec.ofInt 8 (b.toNat : Int)).toNat : Int) = _
  rw [BitVec.toNat_xor, h1, h2, UInt8.toNat_xor]
  generalize a.toNat ^^^ b.toNat = y at *
  simp [IntKind.wrap, IntKind.bits, IntKind.signed]
  first | done | omega
theorem bc_upd (l : List UInt8) (j : Nat) (x : UInt8) : bc (l.set j x) = (bc l).set j (.int .u8 (x.toNat : Int)) := by
  unfold bc; rw [List.map_set]
set_option maxRecDepth 100000 in
set_option maxHeartbeats 1000000 in
theorem checksumBurst_walk (A : Option Addr) (n c : Nat) (l : List UInt8) (t : Int) (x0 x1 x2 x3 x4 x5 x6 x7 : UInt8) (w : World) (k0 : BytesAt w A n l) (l0 : n ≤ c) (g0 : c ≤ 9223372036854775807) (lt : 0 ≤ t) (gt : t ≤ 65535) (he : Env2 w) :
    Calls Tryd.prog 8 #[.slice A n c, .int .u16 t, .agg #[.int .u8 (x0.toNat : Int), .int .u8 (x1.toNat : Int), .int .u8 (x2.toNat : Int), .int .u8 (x3.toNat : Int), .int .u8 (x4.toNat : Int), .int .u8 (x5.toNat : Int), .int .u8 (x6.toNat : Int), .int .u8 (x7.toNat : Int)]] w fun e w' => e = .returned (.bool true) ∧ Below w.heap.size w w' := by
  have HE := Lib.hid he
  have HB := Lib.hid k0
  have HL := Lib.hid k0.1
  have hB0 := (Below.refl w.heap.size w).alloc (Nat.le_refl _) (.cells #[.int .u8 (x0.toNat : Int), .int .u8 (x1.toNat : Int), .int .u8 (x2.toNat : Int), .int .u8 (x3.toNat : Int), .int .u8 (x4.toNat : Int), .int .u8 (x5.toNat : Int), .int .u8 (x6.toNat : Int), .int .u8 (x7.toNat : Int)] 36)
  have hblk := heap_alloc_new w (.cells #[.int .u8 (x0.toNat : Int), .int .u8 (x1.toNat : Int), .int .u8 (x2.toNat : Int), .int .u8 (x3.toNat : Int), .int .u8 (x4.toNat : Int), .int .u8 (x5.toNat : Int), .int .u8 (x6.toNat : Int), .int .u8 (x7.toNat : Int)] 36)
  clear k0 he
  have B0 := Lib.hid hB0
  clear hB0
  have q36 := eq36 (x0.toNat : Int) (x1.toNat : Int) (x2.toNat : Int) (x3.toNat : Int) (x4.toNat : Int) (x5.toNat : Int) (x6.toNat : Int) (x7.toNat : Int)
  obtain ⟨z, hz⟩ : ∃ z : Bool, ((((x0.toNat : Int) == 0) && ((x1.toNat : Int) == 0) && ((x2.toNat : Int) == 0) && ((x3.toNat : Int) == 0) && ((x4.toNat : Int) == 0) && ((x5.toNat : Int) == 0) && ((x6.toNat : Int) == 0) && ((x7.toNat : Int) == 0))) = z := ⟨_, rfl⟩
  rw [hz] at q36
  have HZ := Lib.hid hz
  clear hz
  by_cases h300 : 300 < n
  · clear q36
    ·
      go_enter Tryd.func8, Tryd.ntmps8
      go_wp2_with fail
      refine (awake_any _ (HE.out.below B0.out)).mono ?_
      rintro e w1 ⟨rfl, hb1⟩
      have B1 := Lib.hid (more_below B0.out hb1)
      go_wp2_with fail
      refine (awake_any _ (HE.out.below B1.out)).mono ?_
      rintro e w2 ⟨rfl, hb2⟩
      have B2 := Lib.hid (more_below B1.out hb2)
      go_wp2
      go_ret
      exact ⟨rfl, B2.out⟩
  by_cases h0 : n = 0
  · subst h0
    ·
      go_enter Tryd.func8, Tryd.ntmps8
      go_wp2_with fail
      refine (awake_any _ (HE.out.below B0.out)).mono ?_
      rintro e w1 ⟨rfl, hb1⟩
      have B1 := Lib.hid (more_below B0.out hb1)
      go_wp2_with fail
      refine (awake_any _ (HE.out.below B1.out)).mono ?_
      rintro e w2 ⟨rfl, hb2⟩
      have B2 := Lib.hid (more_below B1.out hb2)
      go_wp2
      go_ret
      exact ⟨rfl, B2.out⟩
  have h0' : ((n : Int) == 0) = false := by simp; omega
  rcases z with _ | _
  · ·
      go_enter Tryd.func8, Tryd.ntmps8
      go_wp2_with fail
      refine (awake_any _ (HE.out.below B0.out)).mono ?_
      rintro e w1 ⟨rfl, hb1⟩
      have B1 := Lib.hid (more_below B0.out hb1)
      have c0 := keepcell hb1 (Joins.cell_of_block hblk 0)
      have c1 := keepcell hb1 (Joins.cell_of_block hblk 1)
      have c2 := keepcell hb1 (Joins.cell_of_block hblk 2)
      have c3 := keepcell hb1 (Joins.cell_of_block hblk 3)
      have c4 := keepcell hb1 (Joins.cell_of_block hblk 4)
      have c5 := keepcell hb1 (Joins.cell_of_block hblk 5)
      have c6 := keepcell hb1 (Joins.cell_of_block hblk 6)
      have c7 := keepcell hb1 (Joins.cell_of_block hblk 7)
      have h300' : n ≤ 300 := by omega
      have hn0 : 0 < n := by omega
      go_wp2_with fail
      refine (cp_any _ n _ l _ (HB.out.below B1.out) (by omega)).mono ?_
      rintro e w2 ⟨v2, rfl, o2, hb2⟩
      have B2 := Lib.hid (more_below B1.out hb2)
      obtain ⟨g, d2, rfl, hg1, hnc, hcap⟩ := own_ptr (n := n) (by have := o2; rwa [HL.out] at this) hn0
      obtain ⟨i, hi⟩ : ∃ i : Nat, t % (n : Int) = (i : Int) := ⟨(t % (n : Int)).toNat, by have := Int.emod_nonneg t (show (n : Int) ≠ 0 by omega); omega⟩
      have hin : i < n := by have := Int.emod_lt_of_pos t (show (0 : Int) < n by omega); omega
      have hbk : w2.heap[w.heap.size]? = some (.cells #[.int .u8 (x0.toNat : Int), .int .u8 (x1.toNat : Int), .int .u8 (x2.toNat : Int), .int .u8 (x3.toNat : Int), .int .u8 (x4.toNat : Int), .int .u8 (x5.toNat : Int), .int .u8 (x6.toNat : Int), .int .u8 (x7.toNat : Int)] 36 (0, 0)) := (hb2.block _ (Nat.lt_of_lt_of_le (Array.getElem?_eq_some_iff.1 hblk).1 hb1.size)).trans ((hb1.block _ (Array.getElem?_eq_some_iff.1 hblk).1).trans hblk)
      have hgw : w.heap.size < g := Nat.lt_of_lt_of_le (Nat.lt_of_lt_of_le (Array.getElem?_eq_some_iff.1 hblk).1 hb1.size) hg1
      have HO := Lib.hid o2
      have HLL := Lib.hid HL.out
      clear c0 c1 c2 c3 c4 c5 c6 c7 hblk q36 hb1 hb2 o2 hg1
      obtain ⟨ch, hch⟩ : ∃ ch : List UInt8, [x0, x1, x2, x3, x4, x5, x6, x7] = ch := ⟨_, rfl⟩
      have hch8 : ch.length = 8 := by rw [← hch]; rfl
      have hCS : #[.int .u8 (x0.toNat : Int), .int .u8 (x1.toNat : Int), .int .u8 (x2.toNat : Int), .int .u8 (x3.toNat : Int), .int .u8 (x4.toNat : Int), .int .u8 (x5.toNat : Int), .int .u8 (x6.toNat : Int), .int .u8 (x7.toNat : Int)] = (bc ch).toArray := by rw [← hch]; rfl
      rw [hCS] at hbk
      have HCS := Lib.hid hCS
      clear hCS
      have HCH := Lib.hid hch
      clear hch
      go_wp2_with fail
      rw [hi]
      have HI := Lib.hid hi
      clear hi
      go_loopw [9, 10] (fun b v wr => ∃ k : Nat, k ≤ 8 ∧ i + k ≤ n ∧ v = .int .i64 k ∧ b = .bool (decide (mx l i ch k ≠ l)) ∧ wr.ownsRow w1.heap.size 5 1 (.slice (some ⟨g, 0, none⟩) n d2) l.length (bc (mx l i ch k)) ∧ wr.heap[w.heap.size]? = some (.cells (bc ch).toArray 36 (0, 0)) ∧ Below w.heap.size w wr) (fun _ v _ => 8 - (intOf v).toNat)
      case atStart => exact ⟨0, by omega, by omega, rfl, by simp [mx_zero], by rw [mx_zero]; exact HO.out, hbk, B2.out⟩
      case round =>
        obtain ⟨k, hk8, hik, rfl, rfl, hown, hbl, hB⟩ := hrel
        by_cases hlt : k < 8 ∧ i + k < n
        · obtain ⟨hk, hi2⟩ := hlt
          have hil : i + k < l.length := by rw [HLL.out]; exact hi2
          have hkc : k < ch.length := by omega
          have ca : wr.cell? ⟨g, i + k, none⟩ = some (.int .u8 (l[i + k].toNat : Int)) := by
            have h1 := World.ownsRow.cellAt (by rw [HLL.out] at hown; exact hown) (i + k) (by omega)
            rw [h1, bc, List.getElem?_map, mx_at l i ch k hil hkc]; rfl
          have cb : wr.cell? ⟨w.heap.size, k, none⟩ = some (.int .u8 (ch[k].toNat : Int)) := by
            rw [Joins.cell_of_block hbl k]; simpa using bc_at ch k hkc
          have fa : wr.frozen? ⟨g, i + k, none⟩ = false := World.ownsRow.frozenAt (by rw [HLL.out] at hown; exact hown) (i + k)
          have ex := xor8 l[i + k] ch[k]
          have H1 := Lib.hid (mx_succ l i ch k hil hkc)
          have H2 := Lib.hid (mx_same l i ch k hil hkc)
          have HOW := Lib.hid hown
          have HBL := Lib.hid hbl
          have HBB := Lib.hid hB
          clear hown hbl hB
          generalize l[i + k] = a at *
          generalize ch[k] = u at *
          generalize a ^^^ u = au at *
          have hi0 : (0 : Int) ≤ (i : Int) := by omega
          have hik0 : (0 : Int) ≤ (i : Int) + (k : Int) := by omega
          have hik1 : (i : Int) + (k : Int) < (n : Int) := by omega
          have hik2 : ((i : Int) + (k : Int)).toNat = i + k := by omega
          have hbl2 : (wr.setCell ⟨g, i + k, none⟩ (.int .u8 (au.toNat : Int))).heap[w.heap.size]? = some (.cells (bc ch).toArray 36 (0, 0)) := by
            rw [Below.heap_setCell _ _ _ _ (show w.heap.size ≠ g by omega)]; exact HBL.out
          have cb2 : (wr.setCell ⟨g, i + k, none⟩ (.int .u8 (au.toNat : Int))).cell? ⟨w.heap.size, k, none⟩ = some (.int .u8 (u.toNat : Int)) := by
            rw [Joins.cell_of_block hbl2 k, ← Joins.cell_of_block HBL.out k]; exact cb
          have HB2 := Lib.hid hbl2
          clear hbl2
          go_wp2_with fail
          go_region
          all_goals go_wp2
          all_goals
            have HQ : Hid (mx l i ch k = l ∨ mx l i ch k ≠ l) := Lib.hid (Decidable.em _)
            go_roundw
            case rel =>
              refine ⟨k + 1, by omega, by omega, by go_num, ?_, ?_, HB2.out, below_drew (HBB.out.setCell (show w.heap.size ≤ (⟨g, i + k, none⟩ : Addr).block by show w.heap.size ≤ g; omega) _)⟩
              · first
                | (have h : mx l i ch k = l := by assumption
                   refine congrArg Value.bool ?_
                   rw [Bool.eq_iff_iff, decide_eq_true_eq, Ne, H2.out]
                   have hu : u = 0 ↔ u.toNat = 0 := ⟨fun h => by rw [h]; rfl, fun h => UInt8.toNat.inj h⟩
                   simp [h, hu])
                | (have h : ¬ mx l i ch k = l := by assumption
                   refine congrArg Value.bool ?_
                   rw [Bool.eq_iff_iff, decide_eq_true_eq, Ne, H2.out]
                   simp [h])
              · have h1 := HOW.out
                rw [HLL.out] at h1 ⊢
                rw [H1.out, bc_upd]
                exact (World.ownsRow.stored h1 (i + k) _).1
            case measure => simp [intOf]; omega
        · have hor : ¬ k < 8 ∨ ¬ i + k < n := by
            rcases Nat.lt_or_ge k 8 with h | h
            · exact .inr fun h2 => hlt ⟨h, h2⟩
            · exact .inl (by omega)
          clear hlt
          by_cases hk : k < 8
          · have hn' : i + k = n := by rcases hor with h | h <;> omega
            have hik1 : ¬ (i : Int) + (k : Int) < (n : Int) := by omega
            have hi0 : (0 : Int) ≤ (i : Int) + (k : Int) := by omega
            have hik3 : (i : Int) + (k : Int) ≤ 1000 := by omega
            clear hor hn'
            have HX := Lib.hid (mx_crc l i ch k (by have := HLL.out; omega) (by omega) hk8)
            have hml := mx_len l i ch k (by have := HLL.out; omega) (by omega)
            have hown' := hown
            rw [← hml] at hown'
            obtain ⟨A', d', e, y⟩ := own_bytes hown'
            injection e with e1 e2 e3
            subst e1; subst e3
            rw [hml, HLL.out] at y
            have S1 := Lib.hid (Sum_any _ n d2 (mx l i ch k) wr y (by omega) (HE.out.below hB).e)
            have HBB := Lib.hid hB
            clear e2 hown' hown hbl hB y hml
            obtain ⟨b, hb⟩ : ∃ b : Bool, decide (mx l i ch k ≠ l) = b := ⟨_, rfl⟩
            have HX2 : Hid (b = true ↔ crc 0 (mx l i ch k) ≠ crc 0 l) := Lib.hid (by rw [← hb, decide_eq_true_eq]; exact not_congr HX.out.symm)
            rw [hb]
            clear hb HX
            generalize crc 0 (mx l i ch k) = z1 at *
            go_wp2_with fail
            refine S1.out.mono ?_
            rintro e w' ⟨rfl, rfl⟩
            go_wp2_with fail
            refine (cp_any _ n _ l _ (HB.out.below HBB.out) (by omega)).mono ?_
            rintro e w4 ⟨v4, rfl, o4, hb4⟩
            obtain ⟨A4, d4, rfl, y4, f4, g4⟩ := own_bytes2 (n := n) HL.out o4
            have B4 := Lib.hid (more_below HBB.out hb4)
            have S4 := Lib.hid (Sum_any A4 n d4 l w4 y4 (by omega) (HE.out.below B4.out).e)
            clear y4 f4 g4 o4 hb4
            generalize crc 0 l = z2 at *
            go_wp2_with fail
            refine S4.out.mono ?_
            rintro e w' ⟨rfl, rfl⟩
            rcases b with _ | _
            · obtain rfl : z1 = z2 := by
                rcases Nat.decEq z1 z2 with h | h
                · exact absurd (HX2.out.2 h) (by decide)
                · exact h
              go_wp2
              go_ret
              exact ⟨rfl, B4.out⟩
            · have h5 : ((z1 : Int) == (z2 : Int)) = false := by have := HX2.out.1 rfl; simp; omega
              have h6 : ((z1 : Int) != (z2 : Int)) = true := by rw [bne, h5]; rfl
              go_wp2
              go_ret
              exact ⟨rfl, B4.out⟩
          · clear hor
            have HX := Lib.hid (mx_crc l i ch k (by have := HLL.out; omega) (by omega) hk8)
            have hml := mx_len l i ch k (by have := HLL.out; omega) (by omega)
            have hown' := hown
            rw [← hml] at hown'
            obtain ⟨A', d', e, y⟩ := own_bytes hown'
            injection e with e1 e2 e3
            subst e1; subst e3
            rw [hml, HLL.out] at y
            have S1 := Lib.hid (Sum_any _ n d2 (mx l i ch k) wr y (by omega) (HE.out.below hB).e)
            have HBB := Lib.hid hB
            clear e2 hown' hown hbl hB y hml
            obtain ⟨b, hb⟩ : ∃ b : Bool, decide (mx l i ch k ≠ l) = b := ⟨_, rfl⟩
            have HX2 : Hid (b = true ↔ crc 0 (mx l i ch k) ≠ crc 0 l) := Lib.hid (by rw [← hb, decide_eq_true_eq]; exact not_congr HX.out.symm)
            rw [hb]
            clear hb HX
            generalize crc 0 (mx l i ch k) = z1 at *
            go_wp2_with fail
            refine S1.out.mono ?_
            rintro e w' ⟨rfl, rfl⟩
            go_wp2_with fail
            refine (cp_any _ n _ l _ (HB.out.below HBB.out) (by omega)).mono ?_
            rintro e w4 ⟨v4, rfl, o4, hb4⟩
            obtain ⟨A4, d4, rfl, y4, f4, g4⟩ := own_bytes2 (n := n) HL.out o4
            have B4 := Lib.hid (more_below HBB.out hb4)
            have S4 := Lib.hid (Sum_any A4 n d4 l w4 y4 (by omega) (HE.out.below B4.out).e)
            clear y4 f4 g4 o4 hb4
            generalize crc 0 l = z2 at *
            go_wp2_with fail
            refine S4.out.mono ?_
            rintro e w' ⟨rfl, rfl⟩
            rcases b with _ | _
            · obtain rfl : z1 = z2 := by
                rcases Nat.decEq z1 z2 with h | h
                · exact absurd (HX2.out.2 h) (by decide)
                · exact h
              go_wp2
              go_ret
              exact ⟨rfl, B4.out⟩
            · have h5 : ((z1 : Int) == (z2 : Int)) = false := by have := HX2.out.1 rfl; simp; omega
              have h6 : ((z1 : Int) != (z2 : Int)) = true := by rw [bne, h5]; rfl
              go_wp2
              go_ret
              exact ⟨rfl, B4.out⟩
  · ·
      go_enter Tryd.func8, Tryd.ntmps8
      go_wp2_with fail
      refine (awake_any _ (HE.out.below B0.out)).mono ?_
      rintro e w1 ⟨rfl, hb1⟩
      have B1 := Lib.hid (more_below B0.out hb1)
      have c0 := keepcell hb1 (Joins.cell_of_block hblk 0)
      have c1 := keepcell hb1 (Joins.cell_of_block hblk 1)
      have c2 := keepcell hb1 (Joins.cell_of_block hblk 2)
      have c3 := keepcell hb1 (Joins.cell_of_block hblk 3)
      have c4 := keepcell hb1 (Joins.cell_of_block hblk 4)
      have c5 := keepcell hb1 (Joins.cell_of_block hblk 5)
      have c6 := keepcell hb1 (Joins.cell_of_block hblk 6)
      have c7 := keepcell hb1 (Joins.cell_of_block hblk 7)
      go_wp2_with fail
      refine (awake_any _ (HE.out.below B1.out)).mono ?_
      rintro e w2 ⟨rfl, hb2⟩
      have B2 := Lib.hid (more_below B1.out hb2)
      go_wp2
      go_ret
      exact ⟨rfl, B2.out⟩
end Go.Proofs.YtpnemkphdminnaaDoor
