/- Law ChecksumMemory: the walk. -/
import Derived.Test.YtpnemkphdminnaaDoorLBurW
import Derived.Test.YtpnemkphdminnaaDoorOne
namespace Go.Proofs.YtpnemkphdminnaaDoor
open Go.ChangeShapes Go.WideShapes Go.ChangeAt Go.RowKit Go.ChangeMaps

set_option maxRecDepth 100000 in
set_option maxHeartbeats 1000000 in
theorem checksumMemory_walk (A : Option Addr) (n c : Nat) (l : List UInt8) (w : World) (k0 : BytesAt w A n l) (l0 : n ≤ c) (g0 : c ≤ 9223372036854775807) (he : Env2 w) :
    Calls Tryd.prog 10 #[.slice A n c] w fun e w' => e = .returned (.bool true) ∧ Below w.heap.size w w' := by
  have HE := Lib.hid he
  have HB := Lib.hid k0
  have HL := Lib.hid k0.1
  clear k0 he
  by_cases h300 : 300 < n
  · go_enter Tryd.func10, Tryd.ntmps10
    go_wp2_with fail
    refine (awake_any _ HE.out).mono ?_
    rintro e w1 ⟨rfl, hb1⟩
    have B1 := Lib.hid hb1
    clear hb1
    go_wp2_with fail
    refine (awake_any _ (HE.out.below B1.out)).mono ?_
    rintro e w2 ⟨rfl, hb2⟩
    have B2 := Lib.hid (more_below B1.out hb2)
    clear hb2
    go_wp2
    go_ret
    exact ⟨rfl, B2.out⟩
  · have h300' : n ≤ 300 := by omega
    have S2 := Lib.hid (fun w hb => Append_ref A n c l w hb h300')
    have HK := Lib.hid (ck_append l)
    have HN := Lib.hid (show (l ++ le8 8 (crc 0 l)).length = n + 8 by rw [List.length_append, le8_len, HL.out])
    go_enter Tryd.func10, Tryd.ntmps10
    go_wp2_with fail
    refine (awake_any _ HE.out).mono ?_
    rintro e w1 ⟨rfl, hb1⟩
    have B1 := Lib.hid hb1
    clear hb1
    go_wp2_with fail
    refine (cp_any _ n _ l _ (HB.out.below B1.out) (by omega)).mono ?_
    rintro e w2 ⟨v2, rfl, o2, hb2⟩
    obtain ⟨A2, c2, rfl, y2, f2, g2⟩ := own_bytes2 (n := n) HL.out o2
    have B2 := Lib.hid (more_below B1.out hb2)
    clear hb2 o2
    have S1 := Lib.hid (Append_any A2 n c2 l w2 y2 h300' (HE.out.below B2.out).e)
    have SS := Lib.hid (fun w' (hb : Below w2.heap.size w2 w') => Sum_any A2 n c2 l w' (y2.below hb) (by omega) (HE.out.below (more_below B2.out hb)).e)
    have SU := Lib.hid (fun w' (hb : Below w2.heap.size w2 w') => Update_any 7 A2 n c2 l w' (by omega) (y2.below hb) (by omega) (HE.out.below (more_below B2.out hb)).e)
    have Y2 := Lib.hid y2
    clear y2 f2 g2
    generalize l ++ le8 8 (crc 0 l) = q at *
    go_wp2_with fail
    refine S1.out.mono ?_
    rintro e w3 ⟨v3, rfl, o3, hb3⟩
    obtain ⟨g3, c3, rfl, hg3, hnc3, hcap3⟩ := own_ptr (n := n + 8) (by have := o3; rwa [HN.out] at this) (by omega)
    obtain ⟨A3', c3', e3, y3⟩ := own_bytes o3
    rw [HN.out] at y3 e3
    injection e3 with e31 e32 e33
    subst e31; subst e33
    have hg3' : g3 < w3.heap.size := (o3.lt g3 rfl).2
    have B3 := Lib.hid hb3
    go_wp2_with fail
    refine (cp_any _ (n + 8) _ q _ y3 (by omega)).mono ?_
    rintro e w4 ⟨v4, rfl, o4, hb4⟩
    obtain ⟨A4, c4, rfl, y4, f4, g4⟩ := own_bytes2 (n := n + 8) HN.out o4
    have H4lt := Lib.hid (fun g (e : (Value.slice A4 (n + 8) c4).ownBlock = some g) => (o4.lt g e).2)
    have B4 := Lib.hid (more_below hb3 hb4)
    have S4 := Lib.hid (Check_all A4 (n + 8) c4 q w4 y4 (by omega) f4 g4 (HE.out.below (more_below B2.out B4.out)).e)
    rw [HK.out] at S4
    have o3 := own_below o3 hb4
    have hs4 := hb4.size
    clear hb4 y4 f4 g4 y3 e32 hb3
    go_wp2_with fail
    refine S4.out.mono ?_
    rintro e w5 ⟨v5, rfl, o5, hb5⟩
    have B5 := Lib.hid (more_below B4.out hb5)
    have O3 := Lib.hid (own_below o3 hb5)
    have O4 := Lib.hid (own_below o4 hb5)
    have O5 := Lib.hid o5
    have hs5 := hb5.size
    clear hb5 o5 o4 o3
    obtain ⟨A5, c5, rfl, _, f5, g5⟩ := own_bytes2 (n := n) HL.out O5.out
    go_wp2_with fail
    refine (SS.out _ B5.out).mono ?_
    rintro e w' ⟨rfl, rfl⟩
    go_wp2_with fail
    refine (SU.out _ B5.out).mono ?_
    rintro e w' ⟨rfl, rfl⟩
    go_wp2_with fail
    go_loopw [35] (fun v wr => ∃ (i : Nat) (xs : List Value), i ≤ n + 8 ∧ v = .int .i64 i ∧ wr.ownsRow w2.heap.size 5 1 (.slice (some ⟨g3, 0, none⟩) (n + 8) c3) (n + 8) xs ∧ (∀ j, i ≤ j → xs[j]? = (bc q)[j]?) ∧ wr.ownsRow w3.heap.size 5 1 (.slice A4 (n + 8) c4) q.length (bc q) ∧ wr.ownsRow w4.heap.size 5 1 (.slice A5 n c5) l.length (bc l) ∧ Below w2.heap.size w2 wr) (fun v _ => n + 8 - (intOf v).toNat)
    case atStart => exact ⟨0, bc q, by omega, rfl, by have := O3.out; rwa [HN.out] at this, fun _ _ => rfl, O4.out, O5.out, B5.out⟩
    case round =>
      obtain ⟨i, xs, hi, rfl, hx, hxs, h4, h5, hB⟩ := hrel
      by_cases hlt : i < n + 8
      · have hiq : i < q.length := by rw [HN.out]; exact hlt
        have c0 : wr.cell? ⟨g3, i, none⟩ = some (.int .u8 (q[i].toNat : Int)) := by
          rw [World.ownsRow.cellAt hx i (by omega), hxs i (Nat.le_refl _), bc_at q i hiq]
        have f0 : wr.frozen? ⟨g3, i, none⟩ = false := World.ownsRow.frozenAt hx i
        have HX := Lib.hid hx
        have HXS := Lib.hid hxs
        have H4 := Lib.hid h4
        have H5 := Lib.hid h5
        have HBB := Lib.hid hB
        have hu := UInt8.toNat_lt q[i]
        clear hx hxs h4 h5 hB
        generalize q[i].toNat = u at *
        go_wp2
        go_roundw
        case rel =>
          refine ⟨i + 1, _, by omega, by go_num, (World.ownsRow.stored HX.out i _).1, fun j hj => ?_, ownsRow_setCell_below H4.out (by show g3 < w3.heap.size; exact hg3') _, ownsRow_setCell_below H5.out (by show g3 < w4.heap.size; omega) _, HBB.out.setCell (by show w2.heap.size ≤ g3; exact hg3) _⟩
          rw [List.getElem?_set_ne (by omega)]
          exact HXS.out j (by omega)
        case measure => simp [intOf]; omega
      · have HX := Lib.hid hB
        have H4 := Lib.hid h4
        have H5 := Lib.hid h5
        have hs5' := hB.size
        obtain rfl : i = n + 8 := by omega
        clear hx hxs h4 h5 hB hlt
        have H5p : Hid (0 < n → ∃ g, A5 = some ⟨g, 0, none⟩ ∧ w4.heap.size ≤ g) := Lib.hid (fun h0 => by
          obtain ⟨g, cap, e, hg, _⟩ := own_ptr (n := n) (by have := H5.out; rwa [HL.out] at this) h0
          injection e with e1 e2 e3
          exact ⟨g, e1, hg⟩)
        go_wp2_with fail
        go_loopw [47] (fun v wr => ∃ (i : Nat) (xs : List Value), i ≤ n ∧ v = .int .i64 i ∧ wr.ownsRow w4.heap.size 5 1 (.slice A5 n c5) n xs ∧ (∀ j, i ≤ j → xs[j]? = (bc l)[j]?) ∧ wr.ownsRow w3.heap.size 5 1 (.slice A4 (n + 8) c4) q.length (bc q) ∧ Below w2.heap.size w2 wr) (fun v _ => n - (intOf v).toNat)
        case atStart => exact ⟨0, bc l, by omega, rfl, by have := H5.out; rwa [HL.out] at this, fun _ _ => rfl, H4.out, HX.out⟩
        case round =>
          obtain ⟨i, xs, hi, rfl, hx, hxs, h4, hB⟩ := hrel
          by_cases hlt : i < n
          · obtain ⟨g5', rfl, hg5⟩ := H5p.out (by omega)
            have hil : i < l.length := by rw [HL.out]; exact hlt
            have c0 : wr.cell? ⟨g5', i, none⟩ = some (.int .u8 (l[i].toNat : Int)) := by
              rw [World.ownsRow.cellAt hx i (by omega), hxs i (Nat.le_refl _), bc_at l i hil]
            have f0 : wr.frozen? ⟨g5', i, none⟩ = false := World.ownsRow.frozenAt hx i
            have HX2 := Lib.hid hx
            have HXS := Lib.hid hxs
            have H42 := Lib.hid h4
            have HBB := Lib.hid hB
            have hu := UInt8.toNat_lt l[i]
            have h4lt : (Value.slice A4 (n + 8) c4).ownBlock ≠ some g5' := fun e => by
              have := H4lt.out g5' e
              omega
            clear hx hxs h4 hB
            generalize l[i].toNat = u at *
            go_wp2
            go_roundw
            case rel =>
              refine ⟨i + 1, _, by omega, by go_num, (World.ownsRow.stored HX2.out i _).1, fun j hj => ?_, ownsRow_setCell_other H42.out h4lt _, HBB.out.setCell (by show w2.heap.size ≤ g5'; omega) _⟩
              rw [List.getElem?_set_ne (by omega)]
              exact HXS.out j (by omega)
            case measure => simp [intOf]; omega
          · have HB6 := Lib.hid hB
            have H46 := Lib.hid h4
            have hni : n = i := by omega
            subst hni
            clear hx hxs h4 hB hlt
            go_wp2_with fail
            have hW : ∀ d os, Below w2.heap.size w2 (Go.Sort.grow (redrawn wr d) os) := fun d os => HB6.out.trans ((below_regrown _ _ _).mono HB6.out.size)
            have qa : ∀ d os, (convert 22 9 (.slice A2 n c2)).run Tryd.prog (Go.Sort.grow (redrawn wr d) os) = .ok (.string ⟨l.toArray⟩) (Go.Sort.grow (redrawn wr d) os) := fun d os => string_at (c := c2) (Y2.out.below (hW d os))
            have qb : ∀ d os, (convert 22 9 (.slice A n c)).run Tryd.prog (Go.Sort.grow (redrawn wr d) os) = .ok (.string ⟨l.toArray⟩) (Go.Sort.grow (redrawn wr d) os) := fun d os => string_at (c := c) (HB.out.below (more_below B2.out (hW d os)))
            have qc : ∀ d os, (convert 22 9 (.slice A4 (n + 8) c4)).run Tryd.prog (Go.Sort.grow (redrawn wr d) os) = .ok (.string ⟨q.toArray⟩) (Go.Sort.grow (redrawn wr d) os) := fun d os => run_string_own _ 22 9 5 _ _ q Tryd.underlying22 Tryd.underlying5 Tryd.underlying9 (own_below H46.out (below_regrown _ _ _))
            have D5 : Below wr.heap.size wr wr.drew := below_drew (Below.refl _ _)
            clear hW
            refine wp_region_one_below 9 (fun v w' => w'.ownsRow wr.heap.size 5 1 v q.length (bc q) ∧ Below wr.heap.size wr w') (by kernel_rfl) (by kernel_rfl) (by kernel_rfl) (by kernel_rfl) (fun _ _ h => h.2) ?_
            refine ⟨_, _, rfl, ?_⟩
            simp only [List.take_succ_cons, List.take_zero]
            repeat (first | go_big_quiet_step (fail) | quiet_step (fail))
            refine wpQuiet_nil ⟨?_, ?_⟩
            · refine ⟨by first | rfl | simp [Region.wanted, yielded], ?_⟩
              go_simp
              refine ⟨_, _, ⟨rfl, rfl⟩, ?_⟩
              refine (S2.out _ (HB.out.below (more_below B2.out (HB6.out.trans (D5.mono HB6.out.size))))).mono ?_
              rintro e w6 ⟨v6, rfl, o6, hb6⟩
              exact ⟨v6, rfl, o6, D5.trans hb6⟩
            · rintro v6 w6 ⟨o6, hb6⟩
              have qc := run_string_own w6 22 9 5 _ _ q Tryd.underlying22 Tryd.underlying5 Tryd.underlying9 (own_below H46.out hb6)
              have qd := run_string_own w6 22 9 5 _ v6 _ Tryd.underlying22 Tryd.underlying5 Tryd.underlying9 o6
              have B7 := Lib.hid (more_below B2.out (HB6.out.trans (hb6.mono HB6.out.size)))
              repeat (first | go_big_quiet_step (fail) | quiet_step (fail))
              refine wpQuiet_nil ?_
              clear hb6 qa qb qc qd
              go_wp2
              go_ret
              exact ⟨rfl, B7.out⟩
end Go.Proofs.YtpnemkphdminnaaDoor
