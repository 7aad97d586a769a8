/- Rows of bytes; the records of a stream. -/
import Derived.Test.YtgpofkabidginaaWra
namespace Go.Proofs.Ytgpofkabidginaa
open Go.ChangeShapes Go.WideShapes Go.ChangeAt Go.RowKit Go.ChangeMaps

/-- A row of bytes, as a slice has it. -/
structure Rw where
  A : Option Addr
  n : Nat
  c : Nat
  l : List UInt8
def Rw.v (x : Rw) : Value := .slice x.A x.n x.c
def Rw.ok (F : Nat → Prop) (w : World) (x : Rw) : Prop := BA F w x.A x.n x.l ∧ x.n ≤ x.c ∧ x.c ≤ 9223372036854775807
/-- A slice of rows in blocks that stay. -/
def RA (F : Nat → Prop) (w : World) (A : Option Addr) (n : Nat) (L : List Rw) : Prop := L.length = n ∧ (0 < n → ∃ b off, A = some ⟨b, off, none⟩ ∧ b < w.heap.size ∧ ¬ F b ∧ ∀ i (h : i < L.length), w.cell? ⟨b, off + i, none⟩ = some L[i].v) ∧ ∀ x ∈ L, x.ok F w
section
variable {F G : Nat → Prop} {w w' : World} {A : Option Addr} {n : Nat} {L : List Rw}
theorem Rw.ok.chg {x : Rw} (h : x.ok F w) (hc : Chg G w w') (hG : ∀ k, G k → F k) : x.ok F w' := ⟨h.1.chg (hc.mono hG), h.2⟩
theorem RA.chg (h : RA F w A n L) (hc : Chg G w w') (hG : ∀ k, G k → F k) : RA F w' A n L := ⟨h.1, fun hn => by
  obtain ⟨b, off, e, hl, hf, hcc⟩ := h.2.1 hn
  exact ⟨b, off, e, Nat.lt_of_lt_of_le hl hc.size, hf, fun i hi => chg_cell hc hl (fun g => hf (hG b g)) (hcc i hi)⟩, fun x hx => (h.2.2 x hx).chg hc hG⟩
theorem RA.below (h : RA F w A n L) (hb : Below w.heap.size w w') : RA F w' A n L := h.chg (G := fun _ => False) (Chg.of_below hb) (fun _ e => e.elim)
theorem RA.weak (h : RA F w A n L) (hF : ∀ k, k < w.heap.size → ¬ F k → ¬ G k) : RA G w A n L := ⟨h.1, fun hn => by
  obtain ⟨b, off, e, hl, hf, hcc⟩ := h.2.1 hn
  exact ⟨b, off, e, hl, hF b hl hf, hcc⟩, fun x hx => ⟨(h.2.2 x hx).1.re (Chg.refl (fun _ => False) w) (fun _ e => e.elim) hF, (h.2.2 x hx).2⟩⟩
end
/-- A row of rows that the call owns. -/
def OR (F : Nat → Prop) (B : Nat) (w : World) (v : Value) (L : List Rw) : Prop := w.ownsRow B 38 1 v L.length (L.map Rw.v) ∧ ∀ x ∈ L, x.ok (FO F v) w
section
variable {F G : Nat → Prop} {B : Nat} {w w' : World} {v v' : Value} {L : List Rw}
theorem OR.nil (F : Nat → Prop) (B : Nat) (w : World) : OR F B w (.slice none 0 0) [] := ⟨World.ownsRow_nil _ _ _ _, fun _ h => by cases h⟩
theorem OR.below (h : OR F B w v L) (hb : Below w.heap.size w w') : OR F B w' v L := ⟨own_below h.1 hb, fun x hx => (h.2 x hx).chg (G := fun _ => False) (Chg.of_below hb) (fun _ e => e.elim)⟩
theorem OR.chg (h : OR F B w v L) (hc : Chg G w w') (hG : ∀ k, G k → F k) (ho : ∀ j, v.ownBlock = some j → ¬ G j) : OR F B w' v L := ⟨own_chg h.1 hc ho, fun x hx => (h.2 x hx).chg hc (fun k g => .inl (hG k g))⟩
theorem OR.push (h : OR F B w v L) {x : Rw} (hx : x.ok (FO F v) w) (own : w'.ownsRow B 38 1 v' (L.length + 1) (L.map Rw.v ++ [x.v])) (hg : w.grownBy w' v.ownBlock) (hm : Moved w v v') : OR F B w' v' (L ++ [x]) := by
  have hF : ∀ k, k < w.heap.size → ¬ FO F v k → ¬ FO F v' k := fun k hk hf hf2 => by
    rcases hf2 with h1 | h1
    · exact hf (.inl h1)
    · rcases hm with e | ⟨g, e, hg2⟩
      · exact hf (.inr (e ▸ h1))
      · rw [e] at h1; cases h1; omega
  refine ⟨by simpa using own, fun y hy => ?_⟩
  have hy2 : y.ok (FO F v) w := by
    rcases List.mem_append.1 hy with h1 | h1
    · exact h.2 y h1
    · rw [List.mem_singleton] at h1; rw [h1]; exact hx
  exact ⟨hy2.1.re (Chg.of_own2 hg) (fun k hk => .inr hk) hF, hy2.2⟩
theorem OR.ra (h : OR F B w v L) : ∃ A c, v = .slice A L.length c ∧ RA (fun _ => False) w A L.length L := by
  have h0 := h.1
  have hb : ∀ x ∈ L, x.ok (fun _ => False) w := fun x hx => ⟨(h.2 x hx).1.re (Chg.refl (fun _ => False) w) (fun _ e => e.elim) (fun _ _ _ e => e), (h.2 x hx).2⟩
  rcases h.1.2 with ⟨rfl, hl⟩ | ⟨g, cap, cur, rfl, hg, hh, hnc, hcap, hsz, htake⟩
  · exact ⟨none, 0, by rw [hl], rfl, fun hn => absurd hn (by omega), hb⟩
  · refine ⟨_, _, rfl, rfl, fun hn => ⟨g, 0, rfl, (h0.lt g rfl).2, fun e => e, fun i hi => ?_⟩, hb⟩
    rw [Nat.zero_add, World.ownsRow.cellAt h0 i (by omega)]
    simp [List.getElem?_eq_getElem hi]
end
theorem src_one {W : World} {g : Nat} {x : Rw} (h : Blk W g 38 #[x.v]) : Src Try.prog 1 22 (.slice (some ⟨g, 0, none⟩) 1 1) 1 [x.v] W :=
  src_blk Try.underlying22 rfl (fun u hu => by rw [List.mem_singleton] at hu; rw [hu]; rfl) h
set_option maxRecDepth 100000 in
set_option maxHeartbeats 1000000 in
theorem split_any (F : Nat → Prop) (w : World) (hFB : ∀ k, F k → k < w.heap.size) (A : Option Addr) (n c : Nat) (d : List UInt8) (h : BytesAt w A n d) (hn : n ≤ 100000000) (hc : n ≤ c) (hc2 : c ≤ 9223372036854775807) :
    Calls Try.prog 52 #[.slice A n c] w fun e w' => ∃ v L, e = .returned v ∧ OR F w.heap.size w' v L ∧ L.map Rw.l = splitA d ∧ Below w.heap.size w w' := by
  obtain ⟨i1, hi, hz0, hz1, hz2⟩ := info_parts Try.info38
  have HFB := Lib.hid hFB
  have HH := Lib.hid h
  have HSA : Hid (splitA d = splitM n d) := Lib.hid (by unfold splitA; rw [h.1])
  clear h hFB
  go_enter Try.func52, Try.ntmps52
  go_wp2
  go_loopw [0, 3] (fun sv lv wr => ∃ (m c' : Nat) (D : Option Addr) (t : List UInt8) (L : List Rw), sv = .slice D m c' ∧ BA (fun k => w.heap.size ≤ k) wr D m t ∧ m ≤ n ∧ m ≤ c' ∧ c' ≤ 9223372036854775807 ∧ OR F w.heap.size wr lv L ∧ L.length + m ≤ n ∧ L.map Rw.l ++ splitM m t = splitM n d ∧ Below w.heap.size w wr) (fun sv _ _ => match sv with | .slice _ n _ => n | _ => 0)
  case atStart => exact ⟨n, c, A, d, [], rfl, BA.of_at HH.out (fun k hk => hk), Nat.le_refl _, hc, hc2, OR.nil _ _ _, by simp, rfl, Below.refl _ _⟩
  case round =>
    obtain ⟨m, c', D, t, L, rfl, ht, hmn, hmc, hcc, hL, hlm, hsp, hB⟩ := hrel
    have HT := Lib.hid ht
    have HL := Lib.hid hL
    have HSP := Lib.hid hsp
    have HB := Lib.hid hB
    have htl := ht.1
    clear ht hL hsp hB
    by_cases h4 : m < 4
    · have h4i : (m : Int) < 4 := by omega
      have HE : Hid (L.map Rw.l = splitM n d) := Lib.hid (by
        rw [← HSP.out]
        cases m with
        | zero => simp [splitM]
        | succ k => unfold splitM; rw [if_pos (by omega), List.append_nil])
      clear htl
      go_wp2
      go_ret
      exact ⟨_, L, rfl, HL.out, by rw [HSA.out]; exact HE.out, HB.out⟩
    · have h4i : (4 : Int) ≤ (m : Int) := by omega
      obtain ⟨db, doff, rfl⟩ := HT.out.at.some (by omega)
      obtain ⟨x, hx⟩ : ∃ x, rd4 t = x := ⟨_, rfl⟩
      have hxl : x < 4294967296 := by rw [← hx]; exact rd4_lt t
      have HRD := Lib.hid (number_any wr db doff m c' t HT.out.at (by omega) (by omega) (x : Int) (by rw [hx]))
      have HX := Lib.hid hx
      clear htl hx
      by_cases hc4 : c' = 4
      · subst hc4
        obtain rfl : m = 4 := by omega
        have HRS := Lib.hid (show BA (fun k => w.heap.size ≤ k) wr (some ⟨db, doff, none⟩) 0 (t.drop 4) from BA.nil_ _ _ _ rfl (by rw [List.length_drop, HT.out.1]))
        by_cases hx0 : x = 0
        · subst hx0
          have HE : Hid (L.map Rw.l ++ [(t.drop 4).take 0] ++ splitM 0 ((t.drop 4).drop 0) = splitM n d) := Lib.hid (by
            rw [← HSP.out]
            conv => rhs; unfold splitM
            rw [if_neg (by rw [HT.out.1]; omega), HX.out, if_neg (by rw [HT.out.1]; omega), List.append_assoc, List.singleton_append, List.drop_drop, split_more 0 3 _ (by rw [List.length_drop, HT.out.1]; omega) (by rw [List.length_drop, HT.out.1]; omega)])
          go_wp2_with fail
          refine HRD.out.mono ?_
          rintro e w2 ⟨rfl, kq, rfl⟩
          go_wp2_with fail
          refine (Clone_any (FO F u3) (wr.drewN kq) (fun k hk => by
            rcases hk with h | h
            · have := HFB.out k h; have := HB.out.size; exact Nat.lt_of_lt_of_le (HFB.out k h) HB.out.size
            · exact (HL.out.1.lt k h).2) ⟨db, doff, none⟩ 0 0 ((t.drop 4).take 0) ((HRS.out.at.take (Nat.le_refl _)).below (below_dn ⟨_, rfl⟩)) (by omega)).mono ?_
          rintro e w3 ⟨A3, c3, rfl, hb3, hc3, hc3', hbl3⟩
          have HR3 := Lib.hid (show Rw.ok (FO F u3) w3 ⟨A3, 0, c3, (t.drop 4).take 0⟩ from ⟨hb3, hc3, hc3'⟩)
          have hbw : Below wr.heap.size wr w3 := (below_drewN (Below.refl _ _)).trans hbl3
          have HL3 := Lib.hid (HL.out.below hbw)
          have HB3 := Lib.hid (HB.out.trans (hbw.mono HB.out.size))
          clear hb3 hbl3 hbw
          have hb4 : Below w3.heap.size w3 (w3.alloc (.cells #[.slice A3 0 c3] 38)) := (Below.refl _ _).alloc (Nat.le_refl _) _
          have HSR := Lib.hid (src_one (x := ⟨A3, 0, c3, (t.drop 4).take 0⟩) (show Blk (w3.alloc (.cells #[.slice A3 0 c3] 38)) w3.heap.size 38 #[.slice A3 0 c3] from Blk.new _ _ _))
          have HL4 := Lib.hid (HL3.out.below hb4)
          have HR4 := Lib.hid (HR3.out.chg (G := fun _ => False) (Chg.of_below hb4) (fun _ e => e.elim))
          have HB4 := Lib.hid (HB3.out.trans (hb4.mono HB3.out.size))
          clear hb4 HL3 HR3 HB3
          go_wp2_with (at_builtin; refine wpList_append_src _ rfl (.tmp 22) (.tmp 27) 22 22 rfl w.heap.size 38 i1 (.slice none 0 0) 1 24 Try.underlying22 hi hz0 hz1 hz2 rfl u3 L.length (L.map Rw.v) rfl HL4.out.1 _ 1 _ rfl HSR.out (by unfold maxLen; omega) (by omega) (by exact HB4.out.size) ?_; intro v5 w5 own5 hg5 hm5)
          have HL5 := Lib.hid (HL4.out.push HR4.out own5 hg5 hm5)
          have HB5 := Lib.hid (HB4.out.grown hg5 HB4.out.size (fun j hj => (HL4.out.1.lt j hj).1))
          clear own5 hg5 hm5 HL4 HR4 HB4 HSR
          go_wp2
          all_goals
            go_roundw
            case rel => exact ⟨0, 0, _, (t.drop 4).drop 0, L ++ [⟨A3, 0, c3, (t.drop 4).take 0⟩], by first | rfl | simp, BA.nil_ _ _ _ rfl (by rw [List.length_drop, List.length_drop, HT.out.1]), by omega, by omega, by omega, HL5.out, by simp; omega, by rw [List.map_append]; exact HE.out, HB5.out⟩
            case measure => simp <;> omega
        · have hx1 : 0 < x := by omega
          have HE : Hid (L.map Rw.l = splitM n d) := Lib.hid (by
            rw [← HSP.out]
            unfold splitM
            rw [if_neg (by rw [HT.out.1]; omega), HX.out, if_pos (by rw [HT.out.1]; omega), List.append_nil])
          by_cases hx1 : 16777216 < x
          · have hx1i : (16777216 : Int) < (x : Int) := by omega
            clear hx0
            go_wp2_with fail
            refine HRD.out.mono ?_
            rintro e w2 ⟨rfl, kq, rfl⟩
            go_wp2
            go_ret
            exact ⟨_, L, rfl, (HL.out.below (below_dn ⟨_, rfl⟩)), by rw [HSA.out]; exact HE.out, below_drewN HB.out⟩
          · have hx1i : (x : Int) ≤ 16777216 := by omega
            have hx2i : (0 : Int) < (x : Int) := by omega
            clear hx0
            go_wp2_with fail
            refine HRD.out.mono ?_
            rintro e w2 ⟨rfl, kq, rfl⟩
            go_wp2
            go_ret
            exact ⟨_, L, rfl, (HL.out.below (below_dn ⟨_, rfl⟩)), by rw [HSA.out]; exact HE.out, below_drewN HB.out⟩
      · have hc4i : (4 : Int) < (c' : Int) := by omega
        have HRS := Lib.hid (show BA (fun k => w.heap.size ≤ k) wr (some ⟨db, doff + 4, none⟩) (m - 4) (t.drop 4) from HT.out.drop_ (by omega))
        by_cases hxo : x ≤ 16777216 ∧ x ≤ m - 4
        · obtain ⟨hx1, hx2⟩ := hxo
          have hx1i : (x : Int) ≤ 16777216 := by omega
          have hx2i : ((x : Nat) : Int) ≤ ((m - 4 : Nat) : Int) := by omega
          have hx3 : (x : Int) ≤ ((c' - 4 : Nat) : Int) := by omega
          have HE : Hid (L.map Rw.l ++ [(t.drop 4).take x] ++ splitM (m - 4 - x) ((t.drop 4).drop x) = splitM n d) := Lib.hid (by
            rw [← HSP.out]
            obtain ⟨k, rfl⟩ : ∃ k, m = k + 1 := ⟨m - 1, by omega⟩
            conv => rhs; unfold splitM
            rw [if_neg (by rw [HT.out.1]; omega), HX.out, if_neg (by rw [HT.out.1]; omega), List.append_assoc, List.singleton_append, List.drop_drop, split_more (k + 1 - 4 - x) k _ (by rw [List.length_drop, HT.out.1]; omega) (by rw [List.length_drop, HT.out.1]; omega)])
          go_wp2_with fail
          refine HRD.out.mono ?_
          rintro e w2 ⟨rfl, kq, rfl⟩
          go_wp2_with fail
          refine (Clone_any (FO F u3) (wr.drewN kq) (fun k hk => by
            rcases hk with h | h
            · have := HFB.out k h; have := HB.out.size; exact Nat.lt_of_lt_of_le (HFB.out k h) HB.out.size
            · exact (HL.out.1.lt k h).2) ⟨db, doff + 4, none⟩ x (c' - 4) ((t.drop 4).take x) ((HRS.out.at.take hx2).below (below_dn ⟨_, rfl⟩)) (by omega)).mono ?_
          rintro e w3 ⟨A3, c3, rfl, hb3, hc3, hc3', hbl3⟩
          have HR3 := Lib.hid (show Rw.ok (FO F u3) w3 ⟨A3, x, c3, (t.drop 4).take x⟩ from ⟨hb3, hc3, hc3'⟩)
          have hbw : Below wr.heap.size wr w3 := (below_drewN (Below.refl _ _)).trans hbl3
          have HL3 := Lib.hid (HL.out.below hbw)
          have HB3 := Lib.hid (HB.out.trans (hbw.mono HB.out.size))
          have HRS3 := Lib.hid (HRS.out.below hbw)
          clear hb3 hbl3 hbw
          have hb4 : Below w3.heap.size w3 (w3.alloc (.cells #[.slice A3 x c3] 38)) := (Below.refl _ _).alloc (Nat.le_refl _) _
          have HSR := Lib.hid (src_one (x := ⟨A3, x, c3, (t.drop 4).take x⟩) (show Blk (w3.alloc (.cells #[.slice A3 x c3] 38)) w3.heap.size 38 #[.slice A3 x c3] from Blk.new _ _ _))
          have HL4 := Lib.hid (HL3.out.below hb4)
          have HR4 := Lib.hid (HR3.out.chg (G := fun _ => False) (Chg.of_below hb4) (fun _ e => e.elim))
          have HB4 := Lib.hid (HB3.out.trans (hb4.mono HB3.out.size))
          have HRS4 := Lib.hid (HRS3.out.below hb4)
          clear hb4 HL3 HR3 HB3 HRS3
          go_wp2_with (at_builtin; go_loud (refine wpList_append_src _ rfl (.tmp 22) (.tmp 27) 22 22 rfl w.heap.size 38 i1 (.slice none 0 0) 1 24 Try.underlying22 hi hz0 hz1 hz2 rfl u3 L.length (L.map Rw.v) rfl HL4.out.1 _ 1 _ rfl HSR.out (by unfold maxLen; omega) (by omega) (by exact HB4.out.size) ?_); intro v5 w5 own5 hg5 hm5)
          have HL5 := Lib.hid (HL4.out.push HR4.out own5 hg5 hm5)
          have HB5 := Lib.hid (HB4.out.grown hg5 HB4.out.size (fun j hj => (HL4.out.1.lt j hj).1))
          have HRS5 := Lib.hid (HRS4.out.chg (Chg.of_own HL4.out.1 hg5))
          clear own5 hg5 hm5 HL4 HR4 HB4 HRS4 HSR
          go_wp2
          all_goals
            go_roundw
            case rel => exact ⟨m - 4 - x, c' - 4 - x, (if c' - 4 = x then some ⟨db, doff + 4, none⟩ else some ⟨db, doff + 4 + x, none⟩), (t.drop 4).drop x, L ++ [⟨A3, x, c3, (t.drop 4).take x⟩], by first | rfl | simp [*], HRS5.out.rest hx2 (by omega), by omega, by omega, by omega, HL5.out, by simp; omega, by rw [List.map_append]; exact HE.out, HB5.out⟩
            case measure => simp <;> omega
        · have HE : Hid (L.map Rw.l = splitM n d) := Lib.hid (by
            rw [← HSP.out]
            obtain ⟨k, rfl⟩ : ∃ k, m = k + 1 := ⟨m - 1, by omega⟩
            unfold splitM
            rw [if_neg (by rw [HT.out.1]; omega), HX.out, if_pos (by rw [HT.out.1]; omega), List.append_nil])
          by_cases hx1 : 16777216 < x
          · have hx1i : (16777216 : Int) < (x : Int) := by omega
            clear hxo
            go_wp2_with fail
            refine HRD.out.mono ?_
            rintro e w2 ⟨rfl, kq, rfl⟩
            go_wp2
            go_ret
            exact ⟨_, L, rfl, (HL.out.below (below_dn ⟨_, rfl⟩)), by rw [HSA.out]; exact HE.out, below_drewN HB.out⟩
          · have hx1i : (x : Int) ≤ 16777216 := by omega
            have hx2i : m - 4 < x := by omega
            clear hxo
            go_wp2_with fail
            refine HRD.out.mono ?_
            rintro e w2 ⟨rfl, kq, rfl⟩
            go_wp2
            go_ret
            exact ⟨_, L, rfl, (HL.out.below (below_dn ⟨_, rfl⟩)), by rw [HSA.out]; exact HE.out, below_drewN HB.out⟩
end Go.Proofs.Ytgpofkabidginaa
