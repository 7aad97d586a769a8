/- Rows decoded. -/
import Derived.Test.YtdfkcibmmabjcaaDec
namespace Go.Proofs.Ytdfkcibmmabjcaa
open Go.ChangeShapes Go.WideShapes Go.ChangeAt Go.RowKit Go.ChangeMaps

def c3 (x : V3) : List Value := [.int .i64 x.k, .int .i64 x.n, .string x.s]
def rc (R : List V3) : List Value := R.flatMap c3
theorem rc_len (R : List V3) : (rc R).length = R.length * 3 := by
  unfold rc
  induction R with
  | nil => rfl
  | cons x R ih => rw [List.flatMap_cons, List.length_append, ih, List.length_cons]; simp [c3]; omega
theorem rc_app (R S : List V3) : rc (R ++ S) = rc R ++ rc S := by unfold rc; rw [List.flatMap_append]
theorem rc_one (R : List V3) : ∀ u ∈ rc R, u.oneCell' = true := by
  intro u hu
  obtain ⟨x, _, h⟩ := List.mem_flatMap.1 hu
  simp only [c3, List.mem_cons, List.not_mem_nil, or_false] at h
  rcases h with rfl | rfl | rfl <;> rfl
theorem rc_at : ∀ (R : List V3) (i : Nat) (h : i < R.length), (rc R)[i * 3]? = some (.int .i64 R[i].k) ∧ (rc R)[i * 3 + 1]? = some (.int .i64 R[i].n) ∧ (rc R)[i * 3 + 2]? = some (.string R[i].s)
  | x :: R, 0, _ => ⟨rfl, rfl, rfl⟩
  | x :: R, i + 1, h => by
    have ih := rc_at R i (by simpa using h)
    have e : rc (x :: R) = c3 x ++ rc R := rfl
    rw [e]
    have hc : (c3 x).length = 3 := rfl
    refine ⟨?_, ?_, ?_⟩
    · rw [List.getElem?_append_right (by rw [hc]; omega), hc, show (i + 1) * 3 - 3 = i * 3 by omega]; simpa using ih.1
    · rw [List.getElem?_append_right (by rw [hc]; omega), hc, show (i + 1) * 3 + 1 - 3 = i * 3 + 1 by omega]; simpa using ih.2.1
    · rw [List.getElem?_append_right (by rw [hc]; omega), hc, show (i + 1) * 3 + 2 - 3 = i * 3 + 2 by omega]; simpa using ih.2.2

/-- From w on, the row of values v has become v' and holds R. -/
def RGrows (B : Nat) (w : World) (v : Value) (R : List V3) (v' : Value) (w' : World) : Prop :=
  w'.ownsRow B 23 3 v' R.length (rc R) ∧ w.grownBy w' v.ownBlock ∧ Moved w v v' ∧ B ≤ w'.heap.size
section
variable {B : Nat} {w W W' : World} {v v' v'' : Value} {R : List V3}
theorem RGrows.none_ (hB : B ≤ w.heap.size) : RGrows B w (.slice none 0 0) [] (.slice none 0 0) w := ⟨World.ownsRow_nil _ _ _ _, World.grownBy.refl w _, .inl rfl, hB⟩
theorem RGrows.more (h : RGrows B w v R v' W) (hs : W.heap.size ≤ W'.heap.size) (ho : W'.ownsRow B 23 3 v' R.length (rc R)) (hg : W.grownBy W' v'.ownBlock) : RGrows B w v R v' W' :=
  ⟨ho, grown_chain h.2.1 h.2.2.1 hg, h.2.2.1, Nat.le_trans h.2.2.2 hs⟩
theorem RGrows.alloc (h : RGrows B w v R v' W) (o : Obj) : RGrows B w v R v' (W.alloc o) := h.more (by simp) (h.1.alloc o) (World.grownBy_alloc W o _)
theorem RGrows.below (hb : Below W.heap.size W W') (h : RGrows B w v R v' W) : RGrows B w v R v' W' := h.more hb.size (own_below h.1 hb) (grown_of_below hb)
theorem RGrows.is_below (h : RGrows B w v R v' W) (hv : v = .slice none 0 0) : Below w.heap.size w W := by
  subst hv
  exact ⟨h.2.1.os, h.2.1.tape, h.2.1.output, h.2.1.size, fun k hk => h.2.1.block k hk (by simp [Value.ownBlock])⟩
end
theorem own_row {w : World} {B : Nat} {v : Value} {R : List V3} (h : w.ownsRow B 23 3 v R.length (rc R)) : ∃ A c, v = .slice A R.length c ∧ RowAt w A R.length R := by
  have h0 := h
  rcases h.2 with ⟨rfl, hl⟩ | ⟨g, cap, cur, rfl, hg, hh, hnc, hcap, hsz, htake⟩
  · exact ⟨none, 0, by rw [hl], rfl, fun hn => by omega⟩
  · refine ⟨_, _, rfl, rfl, fun hn => ⟨g, 0, rfl, (h0.lt g rfl).2, fun i hi => ?_⟩⟩
    have c := rc_at R i hi
    rw [Nat.zero_add, World.ownsRow.cellAt h0 (i * 3) (by omega), World.ownsRow.cellAt h0 (i * 3 + 1) (by omega), World.ownsRow.cellAt h0 (i * 3 + 2) (by omega)]
    exact c
theorem Try.info23 : (Try.prog.info? 23).map (fun i => (i.zero, i.size, i.bytes)) = some (some (.agg #[.int .i64 0, .int .i64 0, .string ⟨#[]⟩]), 3, 32) := by kernel_rfl
/-- A value is appended to a row of the call's own. -/
theorem wpList_rapp {W : World} {ops : Array Oper} {rest : List Oper} {o : Oper} {a : Act} {Q : Exit → Act → World → Prop} (hgd : o.guard = none) (s x : Operand)
    (ho : o.op = .call { callee := .builtin .append, args := #[s, x], argTypes := #[25, 25] }) (B : Nat) (w0 : World) (v0 v : Value) (R : List V3) (hv : a.eval s = v) (G : RGrows B w0 v0 R v W)
    (g : Nat) (y : V3) (hy : a.eval x = .slice (some ⟨g, 0, none⟩) 1 1) (hs : Blk W g 23 (c3 y).toArray) (hb : R.length + 1 ≤ 1099511627776)
    (h : ∀ v' w', RGrows B w0 v0 (R ++ [y]) v' w' → W.heap.size ≤ w'.heap.size → (∀ g t cs, t ≠ 23 → Blk W g t cs → Blk w' g t cs) → wpList Try.prog ops Q rest (a.put o.dst v') w') : wpList Try.prog ops Q (o :: rest) a W := by
  obtain ⟨i0, hi, hz0, hz1, hz2⟩ := info_parts Try.info23
  refine wpList_append_src W hgd s x 25 25 ho B 23 i0 _ 3 32 Try.underlying25 hi hz0 hz1 hz2 rfl v R.length (rc R) hv G.1 _ 1 (c3 y) hy (src_blk Try.underlying25 rfl (by have := rc_one [y]; simpa [rc] using this) hs) (by unfold maxLen; omega) (by omega) G.2.2.2 ?_
  intro v' w' own' hg hm
  refine h v' w' ⟨?_, grown_chain G.2.1 G.2.2.1 hg, moved_chain G.2.1.size G.2.2.1 hm, Nat.le_trans G.2.2.2 hg.size⟩ hg.size (fun _ _ _ hne hk => hk.grown G.1 hne hg)
  rw [rc_app, List.length_append]
  exact own'

theorem decD_le (l : List UInt8) : (decD l).2 ≤ l.length := by
  rcases l with _ | ⟨c, t⟩
  · simp [decD]
  · rw [decD_cons]
    split
    · simp
    · split
      · split
        · assumption
        · simp
      · split
        · split
          · split
            · have := indexByte_bd (c :: t) 0
              simp only; omega
            · simp
          · simp
        · simp
theorem decD_len (l : List UInt8) : (decD l).1.s.size ≤ 16 := by
  rcases l with _ | ⟨c, t⟩
  · exact Nat.zero_le _
  · rw [decD_cons]
    have z : zeroV.s.size ≤ 16 := by decide
    split
    · exact z
    · split
      · split
        · exact Nat.zero_le _
        · exact z
      · split
        · split
          · split
            · rename_i h
              rw [size_of_list, List.length_take]; omega
            · exact z
          · exact z
        · exact z
/-- The row of an encoding. -/
def decA (l : List UInt8) : Option (List V3) :=
  if l = [] then some []
  else if (decD l).2 = 0 then none
  else (decA (l.drop (decD l).2)).map ((decD l).1 :: ·)
termination_by l.length
decreasing_by
  rename_i h1 h2
  have : l.length ≠ 0 := fun e => h1 (List.eq_nil_of_length_eq_zero e)
  rw [List.length_drop]; omega
theorem decA_nil : decA [] = some [] := by rw [decA]; rfl
theorem decA_bad (l : List UInt8) (h : l ≠ []) (h0 : (decD l).2 = 0) : decA l = none := by rw [decA, if_neg h, if_pos h0]
theorem decA_go (l : List UInt8) (h : l ≠ []) (h0 : (decD l).2 ≠ 0) : decA l = (decA (l.drop (decD l).2)).map ((decD l).1 :: ·) := by rw [decA, if_neg h, if_neg h0]

def DecPost (w : World) (l : List UInt8) (e : Ending) (w' : World) : Prop :=
  Below w.heap.size w w' ∧ match decA l with
    | none => e = .returned (.tuple #[.slice none 0 0, .int .i64 2])
    | some R => ∃ A c, e = .returned (.tuple #[.slice A R.length c, .int .i64 0]) ∧ RowAt w' A R.length R

set_option maxRecDepth 100000 in
set_option maxHeartbeats 1000000 in
theorem DecodeRow_any (A : Option Addr) (n c : Nat) (l : List UInt8) (w : World) (hr : BytesAt w A n l) (hn : n ≤ 100000) (hnc : n ≤ c) (hc2 : c ≤ 9223372036854775807) :
    Calls Try.prog 17 #[.slice A n c] w (DecPost w l) := by
  have HL := Lib.hid hr.1
  rcases Nat.eq_zero_or_pos n with h0 | h0
  · subst h0
    obtain rfl : l = [] := List.eq_nil_of_length_eq_zero hr.1
    go_enter Try.func17, Try.ntmps17
    go_wp2
    refine wp_loop_rounds 1 ?_
    rw [rounds_succ]
    go_wp2
    go_ret2
    refine ⟨Below.refl _ _, ?_⟩
    rw [decA_nil]
    exact ⟨none, 0, rfl, rfl, fun h => absurd h (by simp)⟩
  · obtain ⟨b, off, rfl, hb, hcl⟩ := hr.2 h0
    have HC := Lib.hid hcl
    clear hr hcl
    go_enter Try.func17, Try.ntmps17
    go_wp2
    go_loopw [0, 4] (fun s r wr => ∃ (p c' : Nat) (A' : Option Addr) (X : List V3), p ≤ n ∧ s = .slice A' (n - p) c' ∧ n - p ≤ c' ∧ c' ≤ 9223372036854775807 ∧ (p < n → A' = some ⟨b, off + p, none⟩) ∧ X.length ≤ p ∧ RGrows w.heap.size w (.slice none 0 0) X r wr ∧ decA l = (decA (l.drop p)).map (X ++ ·)) (fun s _ _ => match s with | .slice _ n _ => n | _ => 0)
    case atStart => exact ⟨0, c, _, [], Nat.zero_le _, rfl, hnc, hc2, fun _ => rfl, Nat.le_refl _, RGrows.none_ (Nat.le_refl _), by rw [List.drop_zero]; cases decA l <;> simp⟩
    case round =>
      obtain ⟨p, c', A', X, hp, rfl, hpc, hc', hA, hX, hG, hd⟩ := hrel
      have hB := hG.is_below rfl
      have HG := Lib.hid hG
      have HB := Lib.hid hB
      clear hG
      by_cases hlt : p < n
      · obtain rfl := hA hlt
        have hql : (l.drop p).length = n - p := by rw [List.length_drop, HL.out]
        have hcq : ∀ i (h : i < (l.drop p).length), wr.cell? ⟨b, off + p + i, none⟩ = some (.int .u8 ((l.drop p)[i].toNat : Int)) := fun i hi => by
          rw [List.getElem_drop, Nat.add_assoc]
          exact (hB.cell (p := ⟨b, off + (p + i), none⟩) hb).trans (HC.out (p + i) (by rw [HL.out]; omega))
        have hne : l.drop p ≠ [] := fun e => by rw [e] at hql; simp at hql; omega
        have HD := Lib.hid (decode_any b (off + p) (n - p) c' (l.drop p) wr hql (by omega) (by omega) hpc hc' (by have := hB.size; omega) hcq)
        have hle := decD_le (l.drop p)
        rw [hql] at hle
        have HBad := Lib.hid (decA_bad (l.drop p) hne)
        have HGo := Lib.hid (decA_go (l.drop p) hne)
        clear hcq hne hB
        generalize decD (l.drop p) = y at *
        rcases y with ⟨⟨xk, xn, xs⟩, k⟩
        simp only at hle HBad HGo HD
        unfold ret2 at HD
        simp only at HD
        have Hd := Lib.hid hd
        clear hd hql
        rcases Nat.eq_zero_or_pos k with hk | hk
        · subst hk
          go_wp2_with (go_at_call 32; refine HD.out.mono ?_; rintro e w2 ⟨rfl, hb2⟩)
          go_ret2
          refine ⟨(HB.out.trans (hb2.mono HB.out.size)).alloc (by have := HB.out.size; have := hb2.size; omega) _, ?_⟩
          rw [Hd.out, HBad.out trivial]
          rfl
        · have hN := HGo.out (by omega)
          have hN2 : decA l = (decA (l.drop (p + k))).map ((X ++ [⟨xk, xn, xs⟩]) ++ ·) := by
            rw [Hd.out, hN, List.drop_drop]
            cases decA (l.drop (p + k)) <;> simp
          have HN := Lib.hid hN2
          clear hN hN2
          by_cases hck : c' = k
          · have HK := Lib.hid (show p + k = n by omega)
            subst hck
            go_wp2_with (first
              | (go_at_call 32; refine HD.out.mono ?_; rintro e w2 ⟨rfl, hb2⟩)
              | (at_builtin; refine wpList_rapp rfl (.tmp 17) (.tmp 19) rfl w.heap.size w (.slice none 0 0) _ X rfl (((HG.out.below hb2).alloc _).alloc _) _ ⟨xk, xn, xs⟩ rfl (Blk.new_ (by simp) rfl) (by omega) ?_; intro v3 w3 G3 z3 k3))
            have HG3 := Lib.hid G3
            clear G3 z3 k3
            go_roundw
            case rel => exact ⟨n, 0, some ⟨b, off + p, none⟩, X ++ [⟨xk, xn, xs⟩], Nat.le_refl _, by rw [Nat.sub_self], by omega, by omega, fun h => absurd h (Nat.lt_irrefl _), by rw [List.length_append, List.length_singleton]; omega, HG3.out, by rw [← HK.out]; exact HN.out⟩
            case measure => simp; omega
          · go_wp2_with (first
              | (go_at_call 32; refine HD.out.mono ?_; rintro e w2 ⟨rfl, hb2⟩)
              | (at_builtin; refine wpList_rapp rfl (.tmp 17) (.tmp 19) rfl w.heap.size w (.slice none 0 0) _ X rfl (((HG.out.below hb2).alloc _).alloc _) _ ⟨xk, xn, xs⟩ rfl (Blk.new_ (by simp) rfl) (by omega) ?_; intro v3 w3 G3 z3 k3))
            have HG3 := Lib.hid G3
            clear G3 z3 k3
            go_roundw
            case rel => exact ⟨p + k, c' - k, some ⟨b, off + p + k, none⟩, X ++ [⟨xk, xn, xs⟩], by omega, by rw [Nat.sub_sub], by omega, by omega, fun h => by rw [Nat.add_assoc], by rw [List.length_append, List.length_singleton]; omega, HG3.out, HN.out⟩
            case measure => simp; omega
      · obtain rfl : p = n := by omega
        have Hd := Lib.hid hd
        have HS : Hid (∀ e w', (∃ A c, e = Ending.returned (.tuple #[.slice A X.length c, .int .i64 0]) ∧ RowAt w' A X.length X) → Below w.heap.size w w' → DecPost w l e w') := Lib.hid (fun e w' h hb => ⟨hb, by
          have e2 : decA l = some X := by rw [Hd.out, List.drop_of_length_le (by rw [HL.out]; exact Nat.le_refl _), decA_nil]; simp
          rw [e2]; exact h⟩)
        obtain ⟨A3, c3, rfl, y3⟩ := own_row HG.out.1
        have HY := Lib.hid y3
        clear hd hA y3
        have hz : ((p - p : Nat) : Int) = 0 := by omega
        go_wp2
        go_ret2
        exact HS.out _ _ ⟨A3, c3, rfl, HY.out⟩ HB.out
end Go.Proofs.Ytdfkcibmmabjcaa
