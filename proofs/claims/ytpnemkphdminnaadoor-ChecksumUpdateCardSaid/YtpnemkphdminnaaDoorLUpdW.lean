/- Law ChecksumUpdate: the walk. -/
import Derived.Test.YtpnemkphdminnaaDoorEnv
namespace Go.Proofs.YtpnemkphdminnaaDoor
open Go.ChangeShapes Go.WideShapes Go.ChangeAt Go.RowKit Go.ChangeMaps

theorem wpList_app_g {P : Program} {W : World} {ops : Array Oper} {rest : List Oper} {o : Oper} {a : Act} {Q : Exit → Act → World → Prop} (hw : Region.wanted o (yielded ops a.tmps) = true) (s x : Operand) (t tx : TypeId)
    (ho : o.op = .call { callee := .builtin .append, args := #[s, x], argTypes := #[t, tx] })
    (B : Nat) (w0 : World) (v0 : Value) (e : TypeId) (i : TypeInfo) (ht : P.underlying t = some (.slice e)) (hi : P.info? e = some i) (hz : i.zero = some (.int .u8 0)) (hsize : i.size = 1) (hby : i.bytes = 1)
    (v : Value) (l : List UInt8) (hv : a.eval s = v) (G : Grows e B w0 v0 l v W)
    (y : Value) (m : Nat) (news : List UInt8) (hy : a.eval x = y) (hs : Src P 1 tx y m (bc news) W) (hb : l.length + m ≤ 140737488355328)
    (h : ∀ v' w', Grows e B w0 v0 (l ++ news) v' w' → W.heap.size ≤ w'.heap.size → (∀ g t cs, t ≠ e → Blk W g t cs → Blk w' g t cs) → wpList P ops Q rest (a.put o.dst v') w') : wpList P ops Q (o :: rest) a W :=
  wpList_step fun K hK => by
    rw [if_pos hw]
    exact wp_append_src W s x t tx ho B e i _ 1 1 ht hi hz hsize hby rfl v l.length (bc l) hv G.1 y m (bc news) hy hs (by unfold maxLen; omega) (by omega) G.2.2.2
      fun v' w' own' hg hm => hK _ _ (h v' w' (G.step news own' rfl (by have := hs.newsLen; rw [bc_len] at this; omega) hg hm) hg.size (fun _ _ _ hne hk => hk.grown G.1 hne hg))
set_option maxRecDepth 100000 in
set_option maxHeartbeats 1000000 in
theorem checksumUpdate_walk (s : Int) (A : Option Addr) (n c : Nat) (l : List UInt8) (D : Option Addr) (m d : Nat) (q : List UInt8) (w : World) (ls : 0 ≤ s) (gs : s ≤ 18446744073709551615) (k0 : BytesAt w A n l) (l0 : n ≤ c) (g0 : c ≤ 9223372036854775807) (k1 : BytesAt w D m q) (l1 : m ≤ d) (g1 : d ≤ 9223372036854775807) (he : Env2 w) :
    Calls Tryd.prog 4 #[.int .u64 s, .slice A n c, .slice D m d] w fun e w' => e = .returned (.bool true) ∧ Below w.heap.size w w' := by
  obtain ⟨s, rfl⟩ := Int.eq_ofNat_of_zero_le ls
  have hs : s < 18446744073709551616 := by omega
  have HE := Lib.hid he
  have HB := Lib.hid k0
  have HL := Lib.hid k0.1
  have HD := Lib.hid k1
  have HM := Lib.hid k1.1
  clear k0 he k1
  by_cases h300 : 300 < n
  · go_enter Tryd.func4, Tryd.ntmps4
    go_wp2_with fail
    refine (awake_any _ HE.out).mono ?_
    rintro e w1 ⟨rfl, hb1⟩
    have B1 := Lib.hid hb1
    clear hb1
    go_wp2_with fail
    refine (awake_any _ (HE.out.below B1.out)).mono ?_
    rintro e w2 ⟨rfl, hb2⟩
    have B2 := Lib.hid (more_below B1.out hb2)
    clear hb2
    go_wp2
    go_ret
    exact ⟨rfl, B2.out⟩
  by_cases h301 : 300 < m
  · go_enter Tryd.func4, Tryd.ntmps4
    go_wp2_with fail
    refine (awake_any _ HE.out).mono ?_
    rintro e w1 ⟨rfl, hb1⟩
    have B1 := Lib.hid hb1
    clear hb1
    go_wp2_with fail
    refine (awake_any _ (HE.out.below B1.out)).mono ?_
    rintro e w2 ⟨rfl, hb2⟩
    have B2 := Lib.hid (more_below B1.out hb2)
    clear hb2
    go_wp2
    go_ret
    exact ⟨rfl, B2.out⟩
  · obtain ⟨i0, hi, iz0, iz1, iz2⟩ := info_parts Tryd.info5
    have h300' : n ≤ 300 := by omega
    have h301' : m ≤ 300 := by omega
    have hz := crc_lt 0 l
    have HC := Lib.hid (crc_cat l q)
    go_enter Tryd.func4, Tryd.ntmps4
    go_wp2_with fail
    refine (awake_any _ HE.out).mono ?_
    rintro e w1 ⟨rfl, hb1⟩
    have B1 := Lib.hid hb1
    clear hb1
    go_wp2_with fail
    refine (cp_any _ n _ l _ (HB.out.below B1.out) (by omega)).mono ?_
    rintro e w2 ⟨v2, rfl, o2, hb2⟩
    obtain ⟨A2, c2, rfl, y2, f2, g2⟩ := own_bytes2 (n := n) HL.out o2
    have B2 := Lib.hid (more_below B1.out hb2)
    clear hb2 o2 f2 g2
    have S1 := Lib.hid (Update_any s A2 n c2 l w2 hs y2 (by omega) (HE.out.below B2.out).e)
    have S2 := Lib.hid (Update_ref s A n c l w2 hs (HB.out.below B2.out) (by omega))
    clear y2
    generalize crc s l = z1 at *
    go_wp2_with fail
    refine S1.out.mono ?_
    rintro e w' ⟨rfl, rfl⟩
    go_wp2_with fail
    refine S2.out.mono ?_
    rintro e w' ⟨rfl, rfl⟩
    go_wp2_with fail
    refine (cp_any _ n _ l _ (HB.out.below B2.out) (by omega)).mono ?_
    rintro e w3 ⟨v3, rfl, o3, hb3⟩
    obtain ⟨A3, c3, rfl, y3, f3, g3⟩ := own_bytes2 (n := n) HL.out o3
    have B3 := Lib.hid (more_below B2.out hb3)
    clear hb3 o3 f3 g3
    have S3 := Lib.hid (Sum_any A3 n c3 l w3 y3 (by omega) (HE.out.below B3.out).e)
    clear y3
    go_wp2_with fail
    refine S3.out.mono ?_
    rintro e w' ⟨rfl, rfl⟩
    go_wp2_with fail
    refine (cp_any _ m _ q _ (HD.out.below B3.out) (by omega)).mono ?_
    rintro e w4 ⟨v4, rfl, o4, hb4⟩
    obtain ⟨A4, c4, rfl, y4, f4, g4⟩ := own_bytes2 (n := m) HM.out o4
    have B4 := Lib.hid (more_below B3.out hb4)
    clear hb4 o4 f4 g4
    have S4 := Lib.hid (Update_any (crc 0 l) A4 m c4 q w4 hz y4 (by omega) (HE.out.below B4.out).e)
    rw [HC.out] at S4
    clear y4
    obtain ⟨z2, hz2⟩ : ∃ z, crc 0 (l ++ q) = z := ⟨_, rfl⟩
    rw [hz2] at S4
    have HZ2 := Lib.hid hz2
    clear hz2
    go_wp2_with fail
    refine S4.out.mono ?_
    rintro e w' ⟨rfl, rfl⟩
    go_wp2_with fail
    refine (cp_any _ n _ l _ (HB.out.below B4.out) (by omega)).mono ?_
    rintro e w5 ⟨v5, rfl, o5, hb5⟩
    have B5 := Lib.hid (more_below B4.out hb5)
    have G5 := Grows.refl (E := 5) o5 hb5.size
    have D5 := src_at (c := d) (HD.out.below B5.out)
    have hll : l.length + m ≤ 600 := by have := HL.out; omega
    go_wp2_with (at_builtin; refine wpList_app_g (by first | rfl | simp [Region.wanted, yielded]) (.tmp 36) (.tmp 37) 22 22 rfl w4.heap.size _ _ 5 i0 Tryd.underlying22 hi iz0 iz1 iz2 _ l rfl G5 _ m q rfl D5 (by omega) ?_; intro v6 w6 G6 z6 k6)
    obtain ⟨A6, c6, rfl, y6, f6, g6⟩ := own_bytes2 (n := n + m) (by rw [List.length_append, HL.out, HM.out]) G6.1
    have B6 := Lib.hid (B5.out.trans ((G6.below_of o5 hb5.size).mono B4.out.size))
    have S6 := Lib.hid (Sum_any A6 (n + m) c6 (l ++ q) w6 y6 (by omega) (HE.out.below B6.out).e)
    rw [HZ2.out] at S6
    clear y6 f6 g6 G6 k6 z6 D5 G5 hb5 o5
    go_wp2_with fail
    refine S6.out.mono ?_
    rintro e w' ⟨rfl, rfl⟩
    go_wp2
    go_ret
    exact ⟨rfl, B6.out⟩
end Go.Proofs.YtpnemkphdminnaaDoor
