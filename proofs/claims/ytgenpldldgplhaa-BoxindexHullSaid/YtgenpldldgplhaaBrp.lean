/- The reference's Put. -/
import Derived.Test.YtgenpldldgplhaaBrd
namespace Go.Proofs.Ytgenpldldgplhaa
open Go.ChangeShapes Go.WideShapes Go.ChangeAt Go.RowKit Go.ChangeMaps

theorem ins_take (x : It) (L : List It) (k : Nat) (hk : k ≤ L.length) (hall : ∀ y ∈ L.take k, ¬ x.id < y.id) : insL x L = L.take k ++ insL x (L.drop k) := by
  induction k generalizing L with
  | zero => simp
  | succ k ih =>
    cases L with
    | nil => simp at hk
    | cons y L =>
      have h1 := hall y (by simp)
      rw [List.take_succ_cons, List.drop_succ_cons, List.cons_append, ← ih L (by simpa using hk) (fun z hz => hall z (by rw [List.take_succ_cons]; exact List.mem_cons_of_mem _ hz))]
      show (if x.id < y.id then x :: y :: L else y :: insL x L) = _
      rw [if_neg h1]
/-- What Put has appended before item k. -/
def putA (x : It) (L : List It) (k : Nat) : Bool → List It
  | false => L.take k
  | true => insL x (L.take k)
theorem ins_snoc (x y : It) : ∀ L : List It, (∃ z ∈ L, x.id < z.id) → insL x (L ++ [y]) = insL x L ++ [y]
  | [], h => by obtain ⟨z, hz, _⟩ := h; cases hz
  | z :: L, h => by
    show (if x.id < z.id then x :: z :: (L ++ [y]) else z :: insL x (L ++ [y])) = (if x.id < z.id then x :: z :: L else z :: insL x L) ++ [y]
    by_cases e : x.id < z.id
    · rw [if_pos e, if_pos e]; rfl
    · rw [if_neg e, if_neg e, List.cons_append]
      rw [ins_snoc x y L ?_]
      obtain ⟨u, hu, hl⟩ := h
      rcases List.mem_cons.1 hu with rfl | hu
      · exact absurd hl e
      · exact ⟨u, hu, hl⟩
theorem ins_end (x : It) : ∀ L : List It, (∀ z ∈ L, ¬ x.id < z.id) → insL x L = L ++ [x]
  | [], _ => rfl
  | z :: L, h => by
    unfold insL
    rw [if_neg (h z List.mem_cons_self), ins_end x L (fun u hu => h u (List.mem_cons_of_mem _ hu))]
    rfl
theorem ins_here (x y : It) (L : List It) (h : ∀ z ∈ L, ¬ x.id < z.id) (hy : x.id < y.id) : insL x (L ++ [y]) = L ++ [x] ++ [y] := by
  have h1 := ins_take x (L ++ [y]) L.length (by simp) (by rw [List.take_left' rfl]; exact h)
  rw [h1, List.take_left' rfl, List.drop_left' rfl]
  unfold insL
  rw [if_pos hy]
  simp
set_option maxRecDepth 100000 in
set_option maxHeartbeats 2000000 in
theorem RPut_any (A : Option Addr) (n c : Nat) (L : List It) (x : It) (w : World) (h : Irs w A n L) (hn : n ≤ 90000) :
    Calls Try.prog 22 #[.slice A n c, .int .i64 x.id, .agg #[.int .i64 x.t, .slice x.A x.n x.c]] w fun e w' => ∃ A' n' c', e = .returned (.slice A' n' c') ∧ w'.ownsRow w.heap.size 47 3 (.slice A' n' c') n' ((putL L x).flatMap It.cells) ∧ Below w.heap.size w w' := by
  obtain ⟨i0, hi, hz0, hz1, hz2⟩ := info_parts Try.info47
  obtain ⟨W0, hW0⟩ : ∃ W0, W0 = w.alloc (.cells #[.int .i64 x.t, .slice x.A x.n x.c] 32) := ⟨_, rfl⟩
  have hb0 : Below w.heap.size w W0 := by rw [hW0]; exact (Below.refl _ w).alloc (Nat.le_refl _) _
  have hkb : Blk W0 w.heap.size 32 #[.int .i64 x.t, .slice x.A x.n x.c] := by rw [hW0]; exact Blk.new_ rfl rfl
  have HKB := Lib.hid hkb
  have HBA := Lib.hid hb0
  have HLEN := Lib.hid h.len
  have CD := Lib.hid (RDelete_any A n c L x.id W0 (h.below hb0) (by omega))
  have hs0 : w.heap.size < W0.heap.size := hkb.lt
  clear h hb0 hkb
  go_enter Try.func22, Try.ntmps22
  go_wp2_with fail
  rw [← hW0]
  refine CD.out.mono ?_
  rintro e2 w2 ⟨A2, n2, c2', rfl, hown, hbl⟩
  obtain ⟨D, hD⟩ : ∃ D, D = delL L x.id := ⟨_, rfl⟩
  rw [← hD] at hown
  have HDR := Lib.hid (Irs.own hown)
  have HL := Lib.hid (Irs.own hown).len
  have HA := Lib.hid (Irs.own hown).at
  have hn2 : n2 ≤ 90000 := by
    have h1 := HL.out
    have h2 : D.length ≤ L.length := by rw [hD]; exact List.length_filter_le _ _
    have h3 := HLEN.out
    omega
  have HKB2 := Lib.hid (HKB.out.below hbl)
  have HB2 := Lib.hid (HBA.out.trans (hbl.mono (Nat.le_of_lt hs0)))
  have hw2 : w.heap.size < w2.heap.size := HKB2.out.lt
  have HDD := Lib.hid hD
  clear hown hbl CD HKB HBA hs0 hW0 hD
  go_wp2
  go_loopw [7, 8, 9] (fun s7 s8 s9 wr => ∃ (k m : Nat) (q : Bool), s9 = .int .i64 (k : Int) ∧ s8 = .bool q ∧ k ≤ n2 ∧ m ≤ 2 * k ∧ (if q = true then ∃ z ∈ D.take k, x.id < z.id else ∀ z ∈ D.take k, z.id ≤ x.id) ∧ wr.ownsRow w2.heap.size 47 3 s7 m ((putA x D k q).flatMap It.cells) ∧ Below w2.heap.size w2 wr) (fun _ _ s9 _ => n2 - (intOf s9).toNat)
  case atStart => exact ⟨0, 0, false, rfl, rfl, Nat.zero_le _, Nat.zero_le _, (by rw [if_neg (by decide)]; intro z hz; cases hz), World.ownsRow_nil _ _ _ _, Below.refl _ _⟩
  case round =>
    obtain ⟨k, m, q, rfl, rfl, hkn, hmk, hq, hO, hB⟩ := hrel
    obtain ⟨A3, a3, rfl, -⟩ := At.of_own hO
    have HO := Lib.hid hO
    have HB := Lib.hid hB
    have HQ := Lib.hid hq
    have hsw : w2.heap.size ≤ wr.heap.size := hB.size
    clear hO hB hq
    have b0 : wr.cell? ⟨w.heap.size, 0, none⟩ = some (.int .i64 x.t) := (HKB2.out.below HB.out).cell 0
    have b1 : wr.cell? ⟨w.heap.size, 1, none⟩ = some (.slice x.A x.n x.c) := (HKB2.out.below HB.out).cell 1
    by_cases hlt : k < n2
    · have hki : (k : Int) < n2 := by omega
      have hk0 : (0 : Int) ≤ (k : Int) := by omega
      obtain ⟨b, off, rfl, hbl, hc⟩ := HA.out (by omega)
      have hi' : k < D.length := by rw [HL.out]; exact hlt
      obtain ⟨c0, c1, c2⟩ := hc wr HB.out k hi'
      have HC := Lib.hid (fun (W : World) (hW : Below w2.heap.size w2 W) => hc W hW k hi')
      have HT := Lib.hid (show D.take (k + 1) = D.take k ++ [D[k]] from List.take_succ_eq_append_getElem hi')
      clear hc hbl
      generalize D[k] = y at *
      cases q
      · have HQ' := Lib.hid (show ∀ z ∈ D.take k, z.id ≤ x.id from HQ.out)
        cases hg : decide (x.id < y.id)
        · have hgt : ¬ (x.id < y.id) := by simpa using hg
          have HD := Lib.hid (show putA x D (k + 1) false = putA x D k false ++ [y] from HT.out)
          have HN := Lib.hid (show (if false = true then ∃ z ∈ D.take (k + 1), x.id < z.id else ∀ z ∈ D.take (k + 1), z.id ≤ x.id) from by
            intro z hz
            rw [HT.out] at hz
            rcases List.mem_append.1 hz with hz | hz
            · exact HQ'.out z hz
            · rw [List.mem_singleton.1 hz]; omega)
          have HN3 : Hid (Src Try.prog 3 26 (.slice (some ⟨wr.heap.size, 0, none⟩) 1 1) 1 (y.cells) (wr.alloc (.cells #[.int .i64 y.id, .int .i64 y.t, .slice y.A y.n y.c] 47))) := Lib.hid (src_blk (c := 1) Try.underlying26 rfl (it_one _) (show Blk _ wr.heap.size 47 (y.cells).toArray from Blk.new_ rfl rfl))
          have HO3 := Lib.hid (HO.out.alloc (.cells #[.int .i64 y.id, .int .i64 y.t, .slice y.A y.n y.c] 47))
          have HB3 := Lib.hid (HB.out.alloc HB.out.size (.cells #[.int .i64 y.id, .int .i64 y.t, .slice y.A y.n y.c] 47))
          go_wp2_with (at_builtin; go_loud (refine wpList_append_src _ rfl _ _ 26 26 rfl w2.heap.size 47 i0 zIt 3 40 Try.underlying26 hi hz0 hz1 hz2 rfl (.slice A3 m a3) (m) _ rfl HO3.out _ 1 (y.cells) rfl HN3.out ?c1 ?c2 ?c3 ?_))
          case c1 => unfold maxLen; omega
          case c2 => omega
          case c3 => first | omega | (simp; omega)
          intro v' w1 own' hg _
          have HO4 := Lib.hid (show w1.ownsRow w2.heap.size 47 3 v' (m + 1) ((putA x D (k + 1) false).flatMap It.cells) by rw [HD.out, List.flatMap_append]; simpa using own')
          have HB4 := Lib.hid (HB3.out.grown hg (by simp; omega) (fun j hj => (HO3.out.lt j hj).1))
          clear own' hg
          go_wp2
          go_roundw
          case rel => exact ⟨k + 1, m + 1, false, by go_num, rfl, hlt, by omega, HN.out, HO4.out, HB4.out⟩
          case measure => simp [intOf]; omega
        · have hgt : x.id < y.id := by simpa using hg
          have HD := Lib.hid (show putA x D (k + 1) true = putA x D k false ++ [x] ++ [y] from by
            show insL x (D.take (k + 1)) = _
            rw [HT.out]
            exact ins_here x y _ (fun z hz h => by have := HQ'.out z hz; omega) hgt)
          have HN := Lib.hid (show (if true = true then ∃ z ∈ D.take (k + 1), x.id < z.id else ∀ z ∈ D.take (k + 1), z.id ≤ x.id) from ⟨y, by rw [HT.out]; simp, hgt⟩)
          have HN3 : Hid (Src Try.prog 3 26 (.slice (some ⟨wr.heap.size, 0, none⟩) 1 1) 1 (x.cells) (wr.alloc (.cells #[.int .i64 x.id, .int .i64 x.t, .slice x.A x.n x.c] 47))) := Lib.hid (src_blk (c := 1) Try.underlying26 rfl (it_one _) (show Blk _ wr.heap.size 47 (x.cells).toArray from Blk.new_ rfl rfl))
          have HO3 := Lib.hid (HO.out.alloc (.cells #[.int .i64 x.id, .int .i64 x.t, .slice x.A x.n x.c] 47))
          have HB3 := Lib.hid (HB.out.alloc HB.out.size (.cells #[.int .i64 x.id, .int .i64 x.t, .slice x.A x.n x.c] 47))
          go_wp2_with (at_builtin; go_loud (refine wpList_append_src _ rfl _ _ 26 26 rfl w2.heap.size 47 i0 zIt 3 40 Try.underlying26 hi hz0 hz1 hz2 rfl (.slice A3 m a3) (m) _ rfl HO3.out _ 1 (x.cells) rfl HN3.out ?c1 ?c2 ?c3 ?_))
          case c1 => unfold maxLen; omega
          case c2 => omega
          case c3 => first | omega | (simp; omega)
          intro v' w1 own' hg1 _
          have HB4 := Lib.hid (HB3.out.grown hg1 (by simp; omega) (fun j hj => (HO3.out.lt j hj).1))
          obtain ⟨A4, a4, rfl, -⟩ := At.of_own own'
          have hsw1 : w2.heap.size ≤ w1.heap.size := HB4.out.size
          clear c0 c1 c2 b0 b1 HO HB HN3 HO3 HB3 hg1
          have HO := Lib.hid own'
          have HB := HB4
          obtain ⟨c0, c1, c2⟩ := HC.out w1 HB4.out
          clear own'
          have HN3 : Hid (Src Try.prog 3 26 (.slice (some ⟨w1.heap.size, 0, none⟩) 1 1) 1 (y.cells) (w1.alloc (.cells #[.int .i64 y.id, .int .i64 y.t, .slice y.A y.n y.c] 47))) := Lib.hid (src_blk (c := 1) Try.underlying26 rfl (it_one _) (show Blk _ w1.heap.size 47 (y.cells).toArray from Blk.new_ rfl rfl))
          have HO3 := Lib.hid (HO.out.alloc (.cells #[.int .i64 y.id, .int .i64 y.t, .slice y.A y.n y.c] 47))
          have HB3 := Lib.hid (HB.out.alloc HB.out.size (.cells #[.int .i64 y.id, .int .i64 y.t, .slice y.A y.n y.c] 47))
          go_wp2_with (at_builtin; go_loud (refine wpList_append_src _ rfl _ _ 26 26 rfl w2.heap.size 47 i0 zIt 3 40 Try.underlying26 hi hz0 hz1 hz2 rfl (.slice A4 (m + 1) a4) (m + 1) _ rfl HO3.out _ 1 (y.cells) rfl HN3.out ?c1 ?c2 ?c3 ?_))
          case c1 => unfold maxLen; omega
          case c2 => omega
          case c3 => first | omega | (simp; omega)
          intro v' w3 own' hg1 _
          have HO4 := Lib.hid (show w3.ownsRow w2.heap.size 47 3 v' (m + 1 + 1) ((putA x D (k + 1) true).flatMap It.cells) by rw [HD.out, List.flatMap_append, List.flatMap_append]; simpa using own')
          have HB5 := Lib.hid (HB3.out.grown hg1 (by simp; omega) (fun j hj => (HO3.out.lt j hj).1))
          clear own' hg1
          go_wp2
          go_roundw
          case rel => exact ⟨k + 1, m + 1 + 1, true, by go_num, rfl, hlt, by omega, HN.out, HO4.out, HB5.out⟩
          case measure => simp [intOf]; omega
      · have HQ' := Lib.hid (show ∃ z ∈ D.take k, x.id < z.id from HQ.out)
        have HD := Lib.hid (show putA x D (k + 1) true = putA x D k true ++ [y] from by
          show insL x (D.take (k + 1)) = insL x (D.take k) ++ [y]
          rw [HT.out]
          exact ins_snoc x y _ HQ'.out)
        have HN := Lib.hid (show (if true = true then ∃ z ∈ D.take (k + 1), x.id < z.id else ∀ z ∈ D.take (k + 1), z.id ≤ x.id) from by
          obtain ⟨z, hz, h⟩ := HQ'.out
          exact ⟨z, by rw [HT.out]; exact List.mem_append_left _ hz, h⟩)
        have HN3 : Hid (Src Try.prog 3 26 (.slice (some ⟨wr.heap.size, 0, none⟩) 1 1) 1 (y.cells) (wr.alloc (.cells #[.int .i64 y.id, .int .i64 y.t, .slice y.A y.n y.c] 47))) := Lib.hid (src_blk (c := 1) Try.underlying26 rfl (it_one _) (show Blk _ wr.heap.size 47 (y.cells).toArray from Blk.new_ rfl rfl))
        have HO3 := Lib.hid (HO.out.alloc (.cells #[.int .i64 y.id, .int .i64 y.t, .slice y.A y.n y.c] 47))
        have HB3 := Lib.hid (HB.out.alloc HB.out.size (.cells #[.int .i64 y.id, .int .i64 y.t, .slice y.A y.n y.c] 47))
        go_wp2_with (at_builtin; go_loud (refine wpList_append_src _ rfl _ _ 26 26 rfl w2.heap.size 47 i0 zIt 3 40 Try.underlying26 hi hz0 hz1 hz2 rfl (.slice A3 m a3) (m) _ rfl HO3.out _ 1 (y.cells) rfl HN3.out ?c1 ?c2 ?c3 ?_))
        case c1 => unfold maxLen; omega
        case c2 => omega
        case c3 => first | omega | (simp; omega)
        intro v' w1 own' hg _
        have HO4 := Lib.hid (show w1.ownsRow w2.heap.size 47 3 v' (m + 1) ((putA x D (k + 1) true).flatMap It.cells) by rw [HD.out, List.flatMap_append]; simpa using own')
        have HB4 := Lib.hid (HB3.out.grown hg (by simp; omega) (fun j hj => (HO3.out.lt j hj).1))
        clear own' hg
        go_wp2
        go_roundw
        case rel => exact ⟨k + 1, m + 1, true, by go_num, rfl, hlt, by omega, HN.out, HO4.out, HB4.out⟩
        case measure => simp [intOf]; omega
    · obtain rfl : k = n2 := by omega
      have hlt2 : ¬ ((k : Int) < (k : Int)) := by omega
      have HF := Lib.hid (show D.take k = D from List.take_of_length_le (by rw [HL.out]; exact Nat.le_refl _))
      cases q
      · have HD := Lib.hid (show putL L x = putA x D k false ++ [x] from by
          unfold putL
          rw [← HDD.out]
          show _ = D.take k ++ [x]
          rw [HF.out]
          refine ins_end x D (fun z hz h => ?_)
          have h1 : ∀ z ∈ D.take k, z.id ≤ x.id := HQ.out
          rw [HF.out] at h1
          have := h1 z hz
          omega)
        have HN3 : Hid (Src Try.prog 3 26 (.slice (some ⟨wr.heap.size, 0, none⟩) 1 1) 1 (x.cells) (wr.alloc (.cells #[.int .i64 x.id, .int .i64 x.t, .slice x.A x.n x.c] 47))) := Lib.hid (src_blk (c := 1) Try.underlying26 rfl (it_one _) (show Blk _ wr.heap.size 47 (x.cells).toArray from Blk.new_ rfl rfl))
        have HO3 := Lib.hid (HO.out.alloc (.cells #[.int .i64 x.id, .int .i64 x.t, .slice x.A x.n x.c] 47))
        have HB3 := Lib.hid (HB.out.alloc HB.out.size (.cells #[.int .i64 x.id, .int .i64 x.t, .slice x.A x.n x.c] 47))
        go_wp2_with (at_builtin; go_loud (refine wpList_append_src _ rfl _ _ 26 26 rfl w2.heap.size 47 i0 zIt 3 40 Try.underlying26 hi hz0 hz1 hz2 rfl (.slice A3 m a3) (m) _ rfl HO3.out _ 1 (x.cells) rfl HN3.out ?c1 ?c2 ?c3 ?_))
        case c1 => unfold maxLen; omega
        case c2 => omega
        case c3 => first | omega | (simp; omega)
        intro v' w1 own' hg _
        have HO4 := Lib.hid (show w1.ownsRow w2.heap.size 47 3 v' (m + 1) ((putL L x).flatMap It.cells) by rw [HD.out, List.flatMap_append]; simpa using own')
        have HB4 := Lib.hid (HB3.out.grown hg (by simp; omega) (fun j hj => (HO3.out.lt j hj).1))
        clear own' hg
        obtain ⟨A4, a4, rfl, -⟩ := At.of_own HO4.out
        go_wp2
        go_ret
        exact ⟨_, _, _, rfl, own_mono HO4.out (Nat.le_of_lt hw2), HB2.out.trans (HB4.out.mono (Nat.le_of_lt hw2))⟩
      · have HD := Lib.hid (show putL L x = putA x D k true from by
          unfold putL
          rw [← HDD.out]
          show _ = insL x (D.take k)
          rw [HF.out])
        go_wp2
        go_ret
        rw [HD.out]
        exact ⟨_, _, _, rfl, own_mono HO.out (Nat.le_of_lt hw2), HB2.out.trans (HB.out.mono (Nat.le_of_lt hw2))⟩
end Go.Proofs.Ytgenpldldgplhaa
