/- Sxa Sxh Sbg in one text. -/
import Derived.Test.YthhpilkhcomhbaaDoorSpg
import Derived.Test.YthhpilkhcomhbaaDoorOwn
import Derived.Test.YthhpilkhcomhbaaDoorSmx
import Derived.Test.YthhpilkhcomhbaaDoorSwf
import Derived.Test.YthhpilkhcomhbaaDoorSrd
import Derived.Deep.Cut
namespace Go.Proofs.YthhpilkhcomhbaaDoor
open Go.ChangeShapes Go.WideShapes Go.ChangeAt Go.RowKit Go.ChangeMaps
section
theorem src_own {W : World} {B : Nat} {v : Value} {l : List UInt8} (h : W.ownsRow B 5 1 v l.length (bc l)) : ∃ A c, v = .slice A l.length c ∧ Src Tryd.prog 1 36 v l.length (bc l) W := by
  obtain ⟨A, c, e, hb, _, _⟩ := own_bytes3 (F := fun _ => False) h (fun _ h => h.elim)
  exact ⟨A, c, e, by rw [e]; exact src_at hb.at⟩
theorem own_one (w : World) (x : UInt8) (n : Int) (hn : n = (x.toNat : Int)) (B : Nat) (hB : B ≤ w.heap.size) : (w.alloc (.cells #[.int .u8 n] 5)).ownsRow B 5 1 (.slice (some ⟨w.heap.size, 0, none⟩) 1 1) [x].length (bc [x]) := by
  subst hn
  exact ⟨rfl, .inr ⟨w.heap.size, 1, #[.int .u8 (x.toNat : Int)], rfl, hB, heap_alloc_new w _, Nat.le_refl _, by decide, rfl, rfl⟩⟩
set_option maxHeartbeats 1000000 in
theorem number_any (x sz : Nat) (w : World) (hx : x < 18446744073709551616) (hs : sz ≤ 8) : Calls Tryd.prog 50 #[.int .u64 (x : Int), .int .i64 (sz : Int)] w (Gives w (be sz x)) := by
  obtain ⟨i0, hi, hz0, hz1, hz2⟩ := info_parts Tryd.info5
  have B1 : Below w.heap.size w (w.alloc (.cells #[] 5)) := (Below.refl _ _).alloc (Nat.le_refl _) _
  have O := own_empty w
  go_enter Tryd.func50, Tryd.ntmps50
  go_wp2
  go_loopw [0, 5, 6] (fun s0 s5 s6 wr => ∃ k : Nat, k ≤ sz ∧ s6 = .int .i64 (k : Int) ∧ s0 = .int .u64 ((x / 256 ^ k : Nat) : Int) ∧ wr.ownsRow w.heap.size 5 1 s5 (be k x).length (bc (be k x)) ∧ Below w.heap.size w wr) (fun _ _ s6 _ => sz - (intOf s6).toNat)
  case atStart => exact ⟨0, by omega, rfl, int_eq (by rw [Nat.pow_zero, Nat.div_one]), O, B1⟩
  case round =>
    obtain ⟨k, hk, rfl, rfl, hO, hB⟩ := hrel
    have HO := Lib.hid hO
    have HB := Lib.hid hB
    clear hO hB O B1
    by_cases hlt : k < sz
    · have H2 := Lib.hid (show x / 256 ^ (k + 1) = x / 256 ^ k / 256 by rw [Nat.pow_succ, Nat.div_div_eq_div_mul])
      have hxk : x / 256 ^ k < 18446744073709551616 := Nat.lt_of_le_of_lt (Nat.div_le_self _ _) hx
      have H1 := Lib.hid (show be (k + 1) x = [UInt8.ofNat (x / 256 ^ k)] ++ be k x from rfl)
      have HL := Lib.hid (be_len k x)
      generalize x / 256 ^ k = y at *
      have hv2 := Lib.hid (show ((y : Int) % 256) = ((UInt8.ofNat y).toNat : Int) by rw [UInt8.toNat_ofNat']; omega)
      generalize UInt8.ofNat y = z at *
      obtain ⟨A5, c5, rfl, hsrc⟩ := src_own HO.out
      obtain ⟨W1, hW1⟩ : ∃ W, W = wr.alloc (.cells #[.int .u8 ((y : Int) % 256)] 5) := ⟨_, rfl⟩
      have hb1 : Below wr.heap.size wr W1 := by rw [hW1]; exact (Below.refl _ wr).alloc (Nat.le_refl _) _
      have HO1 := Lib.hid (show W1.ownsRow w.heap.size 5 1 (.slice (some ⟨wr.heap.size, 0, none⟩) 1 1) [z].length (bc [z]) by rw [hW1]; exact own_one wr z _ hv2.out _ HB.out.size)
      have HB1 := Lib.hid (HB.out.trans (hb1.mono HB.out.size))
      have hsrc := (src_own (own_below HO.out hb1)).choose_spec.choose_spec.2
      have HSRC := Lib.hid hsrc
      have HS1 := Lib.hid HB1.out.size
      have hlk : (be k x).length ≤ 8 := by rw [HL.out]; omega
      generalize be k x = l at *
      subst hW1
      clear hsrc hb1
      go_wp2_with (at_builtin; refine wpList_app rfl (.tmp 16) (.tmp 17) 36 36 rfl w.heap.size _ _ 5 i0 Tryd.underlying36 hi hz0 hz1 hz2 _ [z] rfl (Grows.refl HO1.out HS1.out) _ l.length l rfl HSRC.out (by simp; omega) ?_; intro v2 w2 G2 z2 k2)
      have HG := Lib.hid G2.1
      have HBn := Lib.hid (HB1.out.trans (show Below w.heap.size _ w2 from G2.below_of HO1.out HS1.out))
      rw [← H1.out] at HG
      clear G2 z2 k2 HO HO1 HB HB1
      go_roundw
      case rel => exact ⟨k + 1, by omega, by go_num, by rw [H2.out]; exact int_eq (Int.natCast_ediv y 256).symm, HG.out, HBn.out⟩
      case measure => simp [intOf]; omega
    · obtain rfl : k = sz := by omega
      go_wp2
      go_ret
      exact ⟨_, rfl, HO.out, HB.out⟩
set_option maxRecDepth 100000 in
theorem value_any (A : Option Addr) (n c : Nat) (l : List UInt8) (w : World) (hb : BytesAt w A n l) (hn : n ≤ 8) :
    Calls Tryd.prog 42 #[.slice A n c] w fun e w' => e = .returned (.int .u64 ((val l : Nat) : Int)) ∧ w' = w := by
  go_enter Tryd.func42, Tryd.ntmps42
  go_wp2
  go_loop [3, 4] (fun v i => ∃ k : Nat, k ≤ n ∧ i = .int .i64 k ∧ v = .int .u64 ((val (l.take k) : Nat) : Int)) (fun _ i => n - (intOf i).toNat)
  case atStart => exact ⟨0, by omega, rfl, by rw [List.take_zero]; rfl⟩
  case round =>
    obtain ⟨k, hk, rfl, rfl⟩ := hrel
    by_cases hlt : k < n
    · have hkl : k < l.length := by rw [hb.1]; exact hlt
      obtain ⟨b, off, rfl, _, hc⟩ := hb.2 (by omega)
      have c0 := hc k hkl
      obtain ⟨a, x, e1, ha, e2, hx, e3, e4⟩ := val_step hkl (by rw [hb.1]; exact hn)
      have HZ0 := Lib.hid (show val (l.take (k + 1)) = 256 * a + x by rw [List.take_succ_eq_append_getElem hkl, val_snoc, e1, e2])
      have H4 := Lib.hid hc
      have H5 := Lib.hid hb
      rw [e2] at c0
      rw [e1]
      have hw1 : IntKind.u64.wrap (256 * (a : Int)) = 256 * (a : Int) := by rw [IntKind.wrap_u64]; omega
      have hw2 : IntKind.u64.wrap (256 * (a : Int) + (x : Int)) = 256 * (a : Int) + (x : Int) := by rw [IntKind.wrap_u64]; omega
      clear hc hb e1 e2 e3 e4 hkl
      go_wp2
      go_round
      case rel => exact ⟨k + 1, by omega, by go_num, by rw [HZ0.out]; exact int_eq (by omega)⟩
      case measure => simp [intOf]; omega
    · obtain rfl : k = n := by omega
      have H4 := Lib.hid (show l.take k = l by rw [← hb.1]; exact List.take_length)
      go_wp2
      go_ret
      exact ⟨by rw [H4.out]; rfl, rfl⟩
def lenOf' : Value → Nat
  | .slice _ n _ => n
  | _ => 0
def padL (d : List UInt8) (k : Nat) : List UInt8 := d ++ List.replicate k 0
theorem padL_succ (d : List UInt8) (k : Nat) : padL d (k + 1) = padL d k ++ [0] := by unfold padL; rw [List.replicate_succ', List.append_assoc]
theorem padL_len (d : List UInt8) (k : Nat) : (padL d k).length = d.length + k := by simp [padL]
theorem padL_padS {d : List UInt8} (h : d.length ≤ 64) : padL d (64 - d.length) = padS d := by unfold padL padS; rw [List.take_of_length_le h]
set_option maxHeartbeats 1000000 in
theorem fill_any (A : Option Addr) (n c : Nat) (d : List UInt8) (w : World) (hb : BytesAt w A n d) (hn : n ≤ 64) : Calls Tryd.prog 43 #[.slice A n c] w (Gives w (padS d)) := by
  obtain ⟨i0, hi, hz0, hz1, hz2⟩ := info_parts Tryd.info5
  have B1 : Below w.heap.size w (w.alloc (.cells #[] 5)) := (Below.refl _ _).alloc (Nat.le_refl _) _
  have hb2 := hb.below B1
  have HD := Lib.hid hb.1
  have O := own_empty w
  have HS1 := Lib.hid B1.size
  have G := Grows.refl (E := 5) (B := w.heap.size) (l := []) O B1.size
  go_enter Tryd.func43, Tryd.ntmps43
  go_wp2_with (at_builtin; refine wpList_app rfl (.tmp 4) (.tmp 5) 36 36 rfl w.heap.size _ _ 5 i0 Tryd.underlying36 hi hz0 hz1 hz2 _ [] rfl G _ n d rfl (src_at hb2) (by simp; omega) ?_; intro v2 w2 G2 z2 k2)
  have HO := Lib.hid G2.1
  have HB := Lib.hid (B1.trans (G2.below_of O B1.size))
  clear G2 z2 k2 G hb2 hb B1 O
  go_loopw [3] (fun s3 wr => ∃ k : Nat, d.length + k ≤ 64 ∧ wr.ownsRow w.heap.size 5 1 s3 (padL d k).length (bc (padL d k)) ∧ Below w.heap.size w wr ∧ lenOf' s3 = d.length + k) (fun s3 _ => 64 - lenOf' s3)
  case atStart => exact ⟨0, by rw [HD.out]; omega, by simpa [padL] using HO.out, HB.out, by obtain ⟨A5, c5, rfl, _⟩ := src_own HO.out; simp [lenOf']⟩
  case round =>
    clear HO HB
    obtain ⟨k, hk, hO, hB, -⟩ := hrel
    have HO := Lib.hid hO
    have HB := Lib.hid hB
    clear hO hB
    have HLK := Lib.hid (padL_len d k)
    obtain ⟨A5, c5, rfl, -⟩ := src_own HO.out
    rw [HLK.out]
    by_cases hlt : d.length + k < 64
    · have hli : ((d.length + k : Nat) : Int) < 64 := by omega
      have H1 := Lib.hid (padL_succ d k)
      have HN := Lib.hid (byte_new wr 0 0 rfl)
      have HB1 := Lib.hid (HB.out.alloc HB.out.size (.cells #[.int .u8 0] 5))
      have HO1 := Lib.hid (show (wr.alloc (.cells #[.int .u8 0] 5)).ownsRow w.heap.size 5 1 (.slice A5 (d.length + k) c5) (padL d k).length (bc (padL d k)) by rw [← HLK.out]; exact HO.out.alloc _)
      have hlp : (padL d k).length ≤ 64 := by rw [HLK.out]; omega
      have HSZ := Lib.hid HB1.out.size
      obtain ⟨m, hm⟩ : ∃ m, d.length + k = m := ⟨_, rfl⟩
      have HM := Lib.hid hm
      rw [hm] at HO1 hli
      rw [hm]
      clear hm
      generalize padL d k = l at *
      go_wp2_with (at_builtin; refine wpList_app rfl (.tmp 10) (.tmp 11) 36 36 rfl w.heap.size _ _ 5 i0 Tryd.underlying36 hi hz0 hz1 hz2 _ l rfl (Grows.refl HO1.out HSZ.out) _ 1 [0] rfl (src_news [0] rfl HN.out) (by simp; omega) ?_; intro v2 w2 G2 z2 k2)
      have HG := Lib.hid G2.1
      have HBn := Lib.hid (HB1.out.trans (show Below w.heap.size _ w2 from G2.below_of HO1.out HSZ.out))
      rw [← H1.out] at HG
      clear G2 z2 k2 HO HO1 HB HB1
      have HLN := Lib.hid (show lenOf' v2 = d.length + (k + 1) by
        obtain ⟨A6, c6, e6, -⟩ := src_own HG.out
        rw [e6]
        show (padL d (k + 1)).length = _
        exact padL_len d (k + 1))
      go_roundw
      case rel => exact ⟨k + 1, by omega, HG.out, HBn.out, HLN.out⟩
      case measure => rw [HLN.out]; have := HM.out; simp only [lenOf']; omega
    · have hk2 : d.length + k = 64 := by omega
      rw [hk2]
      have HE := Lib.hid (show padL d k = padS d by rw [← padL_padS (by omega), show 64 - d.length = k by omega])
      rw [HE.out, padS_len] at HO
      go_wp2
      go_ret
      exact ⟨_, rfl, by rw [padS_len]; exact HO.out, HB.out⟩
end

section
theorem hdr_pad (e n c : Nat) : padS ((be 4 e ++ be 4 n) ++ be 8 c) = hdr e n c := by
  have hl : ((be 4 e ++ be 4 n) ++ be 8 c).length = 16 := by simp [be_len]
  unfold padS hdr
  rw [List.take_of_length_le (by omega), hl, List.append_assoc, List.append_assoc]
  rfl
set_option maxHeartbeats 1000000 in
theorem Header_any (e : Nat) (A : Option Addr) (n c : Nat) (d : List UInt8) (w : World) (hb : BytesAt w A n d) (he : e < 4294967296) (hn : n ≤ 100000) : Calls Tryd.prog 44 #[.int .u32 (e : Int), .slice A n c] w (Gives w (hdr e n (crc 0 d))) := by
  obtain ⟨i0, hi, hz0, hz1, hz2⟩ := info_parts Tryd.info5
  have CN1 := Lib.hid (fun W => number_any e 4 W (by omega) (by omega))
  have CN2 := Lib.hid (fun W => number_any n 4 W (by omega) (by omega))
  have CS := Lib.hid (fun W (h : BytesAt W A n d) => Sum_ref A n c d W h (by omega))
  have hcl := crc_lt 0 d
  generalize crc 0 d = s at *
  have CN3 := Lib.hid (fun W => number_any s 8 W (by omega) (by omega))
  have HH := Lib.hid (hdr_pad e n s)
  have HA := Lib.hid hb
  have L1 := Lib.hid (be_len 4 e)
  have L2 := Lib.hid (be_len 4 n)
  have L3 := Lib.hid (be_len 8 s)
  clear hb
  generalize be 4 e = b1 at *
  generalize be 4 n = b2 at *
  generalize be 8 s = b3 at *
  generalize hdr e n s = res at *
  have HBW := Lib.hid (Below.refl w.heap.size w)
  go_enter Tryd.func44, Tryd.ntmps44
  go_wp2_with fail
  refine (CN1.out _).mono ?_
  rintro e1 w1 ⟨v1, rfl, o1, hb1⟩
  have O1 := Lib.hid o1
  have B1 := Lib.hid hb1
  clear o1 hb1
  go_wp2_with fail
  refine (CN2.out _).mono ?_
  rintro e2 w2 ⟨v2, rfl, o2, hb2⟩
  have O1 := Lib.hid (own_below O1.out hb2)
  have O2 := Lib.hid o2
  have B2 := Lib.hid (B1.out.trans (hb2.mono B1.out.size))
  clear o2 hb2
  obtain ⟨A2, c2, rfl, hs2⟩ := src_own O2.out
  have HS2 := Lib.hid hs2
  have HSZ := Lib.hid B2.out.size
  clear hs2
  go_wp2_with (at_builtin; refine wpList_app rfl (.tmp 8) (.tmp 12) 36 36 rfl w.heap.size _ _ 5 i0 Tryd.underlying36 hi hz0 hz1 hz2 _ b1 rfl (Grows.refl O1.out HSZ.out) _ b2.length b2 rfl HS2.out (by rw [L1.out, L2.out]; omega) ?_; intro v3 w3 G3 z3 k3)
  have O3 := Lib.hid G3.1
  have B3 := Lib.hid (B2.out.trans (show Below w.heap.size _ w3 from G3.below_of O1.out HSZ.out))
  clear G3 z3 k3 O1 O2 HS2 B1 B2 HSZ
  go_wp2_with fail
  refine (CS.out _ (HA.out.below B3.out)).mono ?_
  rintro e4 w4 ⟨rfl, hw⟩
  subst hw
  go_wp2_with fail
  refine (CN3.out _).mono ?_
  rintro e5 w5 ⟨v5, rfl, o5, hb5⟩
  have O3 := Lib.hid (own_below O3.out hb5)
  have B5 := Lib.hid (B3.out.trans (hb5.mono B3.out.size))
  have O5 := Lib.hid o5
  clear o5 hb5 B3
  obtain ⟨A5, c5, rfl, hs5⟩ := src_own O5.out
  have HS5 := Lib.hid hs5
  have HSZ := Lib.hid B5.out.size
  clear hs5
  go_wp2_with (at_builtin; refine wpList_app rfl (.tmp 14) (.tmp 17) 36 36 rfl w.heap.size _ _ 5 i0 Tryd.underlying36 hi hz0 hz1 hz2 _ (b1 ++ b2) rfl (Grows.refl O3.out HSZ.out) _ b3.length b3 rfl HS5.out (by rw [List.length_append, L1.out, L2.out, L3.out]; omega) ?_; intro v6 w6 G6 z6 k6)
  have O6 := Lib.hid G6.1
  have B6 := Lib.hid (B5.out.trans (show Below w.heap.size _ w6 from G6.below_of O3.out HSZ.out))
  clear G6 z6 k6 O3 O5 HS5 B5 HSZ
  have HL := Lib.hid (show ((b1 ++ b2) ++ b3).length ≤ 64 by rw [List.length_append, List.length_append, L1.out, L2.out, L3.out]; omega)
  obtain ⟨A6, c6, rfl, hb6, -, -⟩ := own_bytes3 (F := fun _ => False) O6.out (fun _ h => h.elim)
  have CF := Lib.hid (fill_any A6 _ c6 _ w6 hb6.at HL.out)
  rw [HH.out] at CF
  clear hb6
  go_wp2_with fail
  refine CF.out.mono ?_
  rintro e7 w7 ⟨v7, rfl, o7, hb7⟩
  have O7 := Lib.hid (own_mono o7 B6.out.size)
  have B7 := Lib.hid (B6.out.trans (hb7.mono B6.out.size))
  clear o7 hb7 O6
  go_wp2
  go_ret
  exact ⟨_, rfl, O7.out, B7.out⟩
end

section
theorem store28 {ops : Array Oper} {rest : List Oper} {o : Oper} {a : Act} {w : World} {Q : Exit → Act → World → Prop} (hgd : o.guard = none) (x y : Operand) (ho : o.op = .store 28 x y)
    (g : Nat) (a0 a1 a2 a3 a4 a5 a6 a7 : Int) (hx : a.eval x = .pointer (some ⟨g, 0, none⟩)) (hy : a.eval y = .agg #[.int .i64 a0, .int .i64 a1, .int .i64 a2, .int .i64 a3, .int .i64 a4, .int .i64 a5, .int .i64 a6, .int .i64 a7])
    (old : Array Value) (hg : Blk w g 28 old) (hold : old.size = 8)
    (h : wpList Tryd.prog ops Q rest (a.put o.dst undef) (w.setRow g #[.int .i64 a0, .int .i64 a1, .int .i64 a2, .int .i64 a3, .int .i64 a4, .int .i64 a5, .int .i64 a6, .int .i64 a7])) : wpList Tryd.prog ops Q (o :: rest) a w :=
  wpList_store_row hgd 28 x y ho g _ hx hy 28 old hg (by kernel_rfl) hold (by simp [Value.oneCell']) h
theorem results_c3 {fn : Func} {p u v : Tmp} {ty : TypeId} (h : fn.results = #[.cell p ty, .tmp u, .tmp v]) (tmps : Array Value) (P : Program) (w : World) (g : Nat) (X : Value)
    (hp : tmps.getD p undef = .pointer (some ⟨g, 0, none⟩)) (h1 : (loadVar ty ⟨g, 0, none⟩).run P w = .ok X w) : (results fn tmps).run P w = .ok (.tuple #[X, tmps.getD u undef, tmps.getD v undef]) w := by
  have hp' : tmps[p]?.getD undef = .pointer (some ⟨g, 0, none⟩) := by simpa using hp
  simp [results, h, hp', asAddr, h1, Sem.run_bind, Result.andThen]
theorem load28 {w : World} {g : Nat} {cs : Array Value} (h : Blk w g 28 cs) (hs : cs.size = 8) : (loadVar 28 ⟨g, 0, none⟩).run Tryd.prog w = .ok (.agg cs) w :=
  run_loadVar_row w g 28 28 cs (0, 0) _ h Tryd.underlying28 rfl (by rw [hs]; kernel_rfl)
theorem load28_row {w : World} {g : Nat} (x0 x1 x2 x3 x4 x5 x6 x7 : Int) (h : Blk w g 28 #[.int .i64 x0, .int .i64 x1, .int .i64 x2, .int .i64 x3, .int .i64 x4, .int .i64 x5, .int .i64 x6, .int .i64 x7]) : (loadVar 28 ⟨g, 0, none⟩).run Tryd.prog w = .ok (.agg #[.int .i64 x0, .int .i64 x1, .int .i64 x2, .int .i64 x3, .int .i64 x4, .int .i64 x5, .int .i64 x6, .int .i64 x7]) w := load28 h rfl
theorem keepcell0 {w w' : World} {B b o : Nat} {v : Value} (hb : Below B w w') (hB : b < B) (h : w.cell? ⟨b, o, none⟩ = some v) : w'.cell? ⟨b, o, none⟩ = some v := by
  rw [hb.cell (p := ⟨b, o, none⟩) hB]
  exact h
theorem store8 {w : World} {g : Nat} {y0 y1 y2 y3 y4 y5 y6 y7 : Value} (h : Blk w g 28 #[y0, y1, y2, y3, y4, y5, y6, y7]) (x0 x1 x2 x3 x4 x5 x6 x7 : Int) : Blk ((((((((w.setCell ⟨g, 0, none⟩ (.int .i64 x0)).setCell ⟨g, 1, none⟩ (.int .i64 x1)).setCell ⟨g, 2, none⟩ (.int .i64 x2)).setCell ⟨g, 3, none⟩ (.int .i64 x3)).setCell ⟨g, 4, none⟩ (.int .i64 x4)).setCell ⟨g, 5, none⟩ (.int .i64 x5)).setCell ⟨g, 6, none⟩ (.int .i64 x6)).setCell ⟨g, 7, none⟩ (.int .i64 x7)) g 28 #[.int .i64 x0, .int .i64 x1, .int .i64 x2, .int .i64 x3, .int .i64 x4, .int .i64 x5, .int .i64 x6, .int .i64 x7] := by
  have h8 := Joins.block_setCell (Joins.block_setCell (Joins.block_setCell (Joins.block_setCell (Joins.block_setCell (Joins.block_setCell (Joins.block_setCell (Joins.block_setCell h (.int .i64 x0) (i := 0)) (.int .i64 x1) (i := 1)) (.int .i64 x2) (i := 2)) (.int .i64 x3) (i := 3)) (.int .i64 x4) (i := 4)) (.int .i64 x5) (i := 5)) (.int .i64 x6) (i := 6)) (.int .i64 x7) (i := 7)
  simp only [List.setIfInBounds_toArray, List.set_cons_zero, List.set_cons_succ] at h8
  exact h8
theorem chg8 (w : World) (g : Nat) (x0 x1 x2 x3 x4 x5 x6 x7 : Int) : Chg (fun k => k = g) w ((((((((w.setCell ⟨g, 0, none⟩ (.int .i64 x0)).setCell ⟨g, 1, none⟩ (.int .i64 x1)).setCell ⟨g, 2, none⟩ (.int .i64 x2)).setCell ⟨g, 3, none⟩ (.int .i64 x3)).setCell ⟨g, 4, none⟩ (.int .i64 x4)).setCell ⟨g, 5, none⟩ (.int .i64 x5)).setCell ⟨g, 6, none⟩ (.int .i64 x6)).setCell ⟨g, 7, none⟩ (.int .i64 x7)) := ((((((((Chg.refl (fun k => k = g) w).set_ rfl).set_ rfl).set_ rfl).set_ rfl).set_ rfl).set_ rfl).set_ rfl).set_ rfl
variable {F : Nat → Prop}
set_option maxRecDepth 100000 in
set_option maxHeartbeats 1000000 in
theorem begin_fail (w : World) (r t : Nat) (s : St) (h : Rk F w r t s) (hf : s.f = true) :
    Calls Tryd.prog 41 #[.pointer (some ⟨r, 0, none⟩)] w fun e w' => e = .returned (.tuple #[lay0, .int .i64 0, .int .i64 15]) ∧ Below w.heap.size w w' := by
  have HK := Lib.hid h
  clear h
  unfold lay0
  obtain ⟨W0, hW0⟩ : ∃ W, W = w.alloc (.cells #[.int .i64 0, .int .i64 0, .int .i64 0, .int .i64 0, .int .i64 0, .int .i64 0, .int .i64 0, .int .i64 0] 28) := ⟨_, rfl⟩
  have hb0 : Below w.heap.size w W0 := by rw [hW0]; exact (Below.refl _ w).alloc (Nat.le_refl _) _
  have HA := Lib.hid (show Blk W0 w.heap.size 28 #[.int .i64 0, .int .i64 0, .int .i64 0, .int .i64 0, .int .i64 0, .int .i64 0, .int .i64 0, .int .i64 0] by rw [hW0]; exact Blk.new w 28 _)
  have HB := Lib.hid hb0
  replace HK := Lib.hid (HK.out.below hb0)
  clear hb0
  obtain ⟨cap, hcap, c0, c1, -⟩ := HK.out.cells
  rw [hf] at c1
  have hc1 : Chg (fun k => k = w.heap.size) W0 (W0.setRow w.heap.size #[.int .i64 0, .int .i64 0, .int .i64 0, .int .i64 0, .int .i64 0, .int .i64 0, .int .i64 0, .int .i64 0]) := (Chg.refl _ _).row rfl
  have HA2 := Lib.hid (HA.out.setRow (ds := #[.int .i64 0, .int .i64 0, .int .i64 0, .int .i64 0, .int .i64 0, .int .i64 0, .int .i64 0, .int .i64 0]))
  have HB2 := Lib.hid (hc1.below HB.out (fun k hk => by omega) HB.out.size)
  clear hc1
  go_enter Tryd.func41, Tryd.ntmps41
  go_upto_region 1 with fail
  rw [← hW0]
  clear hW0
  go_wp2_with (refine store28 (o := ⟨none, _, _, _, _, _⟩) rfl _ _ rfl w.heap.size _ _ _ _ _ _ _ _ rfl rfl _ HA.out rfl ?_)
  refine bodyPost_ret (results_c3 rfl _ _ _ w.heap.size _ rfl (load28 HA2.out rfl)) rfl ?_
  exact ⟨rfl, HB2.out⟩
set_option maxRecDepth 100000 in
set_option maxHeartbeats 1000000 in
theorem begin_small (w : World) (r t : Nat) (s : St) (h : Rk F w r t s) (hf : s.f = false) (hn : s.R.length < 7) :
    Calls Tryd.prog 41 #[.pointer (some ⟨r, 0, none⟩)] w fun e w' => e = .returned (.tuple #[lay0, .int .i64 0, .int .i64 1]) ∧ Below w.heap.size w w' := by
  have HK := Lib.hid h
  have CD := Lib.hid (fun W => RDivide_bad W (s.R.length : Nat) (.inl (by omega)))
  clear h hn
  unfold lay0 at *
  obtain ⟨W0, hW0⟩ : ∃ W, W = w.alloc (.cells #[.int .i64 0, .int .i64 0, .int .i64 0, .int .i64 0, .int .i64 0, .int .i64 0, .int .i64 0, .int .i64 0] 28) := ⟨_, rfl⟩
  have hb0 : Below w.heap.size w W0 := by rw [hW0]; exact (Below.refl _ w).alloc (Nat.le_refl _) _
  have HA := Lib.hid (show Blk W0 w.heap.size 28 #[.int .i64 0, .int .i64 0, .int .i64 0, .int .i64 0, .int .i64 0, .int .i64 0, .int .i64 0, .int .i64 0] by rw [hW0]; exact Blk.new w 28 _)
  have HB := Lib.hid hb0
  replace HK := Lib.hid (HK.out.below hb0)
  clear hb0
  obtain ⟨cap, hcap, c0, c1, -⟩ := HK.out.cells
  rw [hf] at c1
  go_enter Tryd.func41, Tryd.ntmps41
  go_upto_region 1 with fail
  rw [← hW0]
  clear hW0
  generalize s.R.length = n at *
  go_wp2_with fail
  refine (CD.out _).mono ?_
  rintro e w1 ⟨rfl, hb1⟩
  replace HB := Lib.hid (HB.out.trans (hb1.mono HB.out.size))
  replace HA := Lib.hid (HA.out.below hb1)
  replace HK := Lib.hid (HK.out.below hb1)
  clear hb1 c0 c1
  have HLT := Lib.hid HA.out.lt
  obtain ⟨W2, hW2⟩ : ∃ W, W = w1.alloc (.cells #[.int .i64 0, .int .i64 0, .int .i64 0, .int .i64 0, .int .i64 0, .int .i64 0, .int .i64 0, .int .i64 0] 28) := ⟨_, rfl⟩
  have hbW : Below w1.heap.size w1 W2 := by rw [hW2]; exact (Below.refl _ _).alloc (Nat.le_refl _) _
  have HL := Lib.hid (show Blk W2 w1.heap.size 28 #[.int .i64 0, .int .i64 0, .int .i64 0, .int .i64 0, .int .i64 0, .int .i64 0, .int .i64 0, .int .i64 0] by rw [hW2]; exact Blk.new w1 28 _)
  replace HB := Lib.hid (HB.out.trans (hbW.mono HB.out.size))
  replace HA := Lib.hid (HA.out.below hbW)
  replace HK := Lib.hid (HK.out.below hbW)
  have HLL : w.heap.size < w1.heap.size := HLT.out
  clear hbW
  go_upto_region 4 with fail
  rw [← hW2]
  clear hW2
  generalize w1.heap.size = gl at *
  have hc1 : Chg (fun k => k = w.heap.size) W2 (W2.setRow w.heap.size #[.int .i64 0, .int .i64 0, .int .i64 0, .int .i64 0, .int .i64 0, .int .i64 0, .int .i64 0, .int .i64 0]) := (Chg.refl _ _).row rfl
  have HA2 := Lib.hid (HA.out.setRow (ds := #[.int .i64 0, .int .i64 0, .int .i64 0, .int .i64 0, .int .i64 0, .int .i64 0, .int .i64 0, .int .i64 0]))
  have HB2 := Lib.hid (hc1.below HB.out (fun k hk => by omega) HB.out.size)
  clear hc1
  have l0 : W2.cell? ⟨gl, 0, none⟩ = some (.int .i64 0) := HL.out.cell 0
  have l1 : W2.cell? ⟨gl, 1, none⟩ = some (.int .i64 0) := HL.out.cell 1
  have l2 : W2.cell? ⟨gl, 2, none⟩ = some (.int .i64 0) := HL.out.cell 2
  have l3 : W2.cell? ⟨gl, 3, none⟩ = some (.int .i64 0) := HL.out.cell 3
  have l4 : W2.cell? ⟨gl, 4, none⟩ = some (.int .i64 0) := HL.out.cell 4
  have l5 : W2.cell? ⟨gl, 5, none⟩ = some (.int .i64 0) := HL.out.cell 5
  have l6 : W2.cell? ⟨gl, 6, none⟩ = some (.int .i64 0) := HL.out.cell 6
  have l7 : W2.cell? ⟨gl, 7, none⟩ = some (.int .i64 0) := HL.out.cell 7
  go_wp2_with (refine store28 (o := ⟨none, _, _, _, _, _⟩) rfl _ _ rfl w.heap.size _ _ _ _ _ _ _ _ rfl rfl _ HA.out rfl ?_)
  refine bodyPost_ret (results_c3 rfl _ _ _ w.heap.size _ rfl (load28 HA2.out rfl)) rfl ?_
  exact ⟨rfl, HB2.out⟩
set_option maxRecDepth 100000 in
set_option maxHeartbeats 1000000 in
theorem begin_slot (w : World) (r t : Nat) (s : St) (h : Rk F w r t s) (hf : s.f = false) (hn : 7 ≤ s.R.length) (hs : 1 < slotOf s) :
    Calls Tryd.prog 41 #[.pointer (some ⟨r, 0, none⟩)] w fun e w' => e = .returned (.tuple #[layV (areaOf s.R.length) s.R.length, .int .i64 0, .int .i64 17]) ∧ Below w.heap.size w w' := by
  have HK := Lib.hid h
  have hn2 : s.R.length ≤ 65536 := h.ok.2.2.1
  have h64 := h.ok.1
  obtain ⟨a, ha⟩ : ∃ a : Int, (areaOf s.R.length : Int) = a := ⟨_, rfl⟩
  have CD := Lib.hid (fun W => RDivide_ok W s.R.length hn hn2)
  rw [ha] at CD
  rw [ha]
  obtain ⟨n, hnn⟩ : ∃ n, s.R.length = n := ⟨_, rfl⟩
  rw [hnn] at CD
  rw [hnn]
  have HN := Lib.hid hnn
  unfold layV at *
  obtain ⟨sl, hsl⟩ : ∃ x, slotOf s = x := ⟨_, rfl⟩
  try rw [hsl]
  have hl0 := getD_len64 (i := 0) h.ok.1 (by omega)
  have HS0 := Lib.hid (show ∀ h0 : 0 < (s.R.getD 0 []).length, (((s.R.getD 0 [])[0]'h0).toNat : Int) = (sl : Int) from fun h0 => by
    rw [← hsl]
    unfold slotOf
    rw [List.getD_eq_getElem?_getD (l := s.R.getD 0 []), List.getElem?_eq_getElem h0]
    rfl)
  rw [hsl] at hs
  obtain ⟨cap2, hcap2, k00, -⟩ := h.cells
  obtain ⟨A9, c9, k10, hc9, -, hba, -⟩ := h.sec 0 (by omega)
  obtain ⟨b9, o9, rfl, hbl, -, hc2⟩ := hba.2 (by decide)
  have k20 : w.cell? ⟨b9, o9, none⟩ = some (.int .u8 (sl : Int)) := by
    have h := hc2 0 (by rw [hl0]; decide)
    rw [HS0.out] at h
    exact h
  rw [HN.out] at k00 hcap2
  have hrl : r < w.heap.size := by simpa using block_lt_of_cell k00
  have htl : t < w.heap.size := by simpa using block_lt_of_cell k10
  clear hba hc2
  have hn7 : (7 : Int) ≤ n := by omega
  clear h h64 ha hnn hsl
  obtain ⟨W0, hW0⟩ : ∃ W, W = w.alloc (.cells #[.int .i64 0, .int .i64 0, .int .i64 0, .int .i64 0, .int .i64 0, .int .i64 0, .int .i64 0, .int .i64 0] 28) := ⟨_, rfl⟩
  have hb0 : Below w.heap.size w W0 := by rw [hW0]; exact (Below.refl _ w).alloc (Nat.le_refl _) _
  have HA := Lib.hid (show Blk W0 w.heap.size 28 #[.int .i64 0, .int .i64 0, .int .i64 0, .int .i64 0, .int .i64 0, .int .i64 0, .int .i64 0, .int .i64 0] by rw [hW0]; exact Blk.new w 28 _)
  have HB := Lib.hid hb0
  replace HK := Lib.hid (HK.out.below hb0)
  clear hb0
  obtain ⟨cap, hcap, c0, c1, -⟩ := HK.out.cells
  rw [hf] at c1
  rw [HN.out] at c0 hcap
  go_enter Tryd.func41, Tryd.ntmps41
  go_upto_region 1 with fail
  rw [← hW0]
  clear hW0
  go_wp2_with fail
  refine (CD.out _).mono ?_
  rintro e w1 ⟨rfl, hb1⟩
  replace HB := Lib.hid (HB.out.trans (hb1.mono HB.out.size))
  replace HA := Lib.hid (HA.out.below hb1)
  replace HK := Lib.hid (HK.out.below hb1)
  clear hb1 c0 c1
  have HLT := Lib.hid HA.out.lt
  obtain ⟨W2, hW2⟩ : ∃ W, W = w1.alloc (.cells #[.int .i64 0, .int .i64 1, .int .i64 2, .int .i64 3, .int .i64 (3 + a), .int .i64 a, .int .i64 (3 + 2 * a), .int .i64 (n - (3 + 2 * a))] 28) := ⟨_, rfl⟩
  have hbW : Below w1.heap.size w1 W2 := by rw [hW2]; exact (Below.refl _ _).alloc (Nat.le_refl _) _
  have HL := Lib.hid (show Blk W2 w1.heap.size 28 #[.int .i64 0, .int .i64 1, .int .i64 2, .int .i64 3, .int .i64 (3 + a), .int .i64 a, .int .i64 (3 + 2 * a), .int .i64 (n - (3 + 2 * a))] by rw [hW2]; exact Blk.new w1 28 _)
  replace HB := Lib.hid (HB.out.trans (hbW.mono HB.out.size))
  replace HA := Lib.hid (HA.out.below hbW)
  replace HK := Lib.hid (HK.out.below hbW)
  have HLL : w.heap.size < w1.heap.size := HLT.out
  clear hbW
  go_upto_region 4 with fail
  rw [← hW2]
  clear hW2
  generalize w1.heap.size = gl at *
  have hc1 : Chg (fun k => k = w.heap.size) W2 (W2.setRow w.heap.size #[.int .i64 0, .int .i64 1, .int .i64 2, .int .i64 3, .int .i64 (3 + a), .int .i64 a, .int .i64 (3 + 2 * a), .int .i64 (n - (3 + 2 * a))]) := (Chg.refl _ _).row rfl
  have HA2 := Lib.hid (HA.out.setRow (ds := #[.int .i64 0, .int .i64 1, .int .i64 2, .int .i64 3, .int .i64 (3 + a), .int .i64 a, .int .i64 (3 + 2 * a), .int .i64 (n - (3 + 2 * a))]))
  have HB2 := Lib.hid (hc1.below HB.out (fun k hk => by omega) HB.out.size)
  clear hc1
  have l0 : W2.cell? ⟨gl, 0, none⟩ = some (.int .i64 0) := HL.out.cell 0
  have l1 : W2.cell? ⟨gl, 1, none⟩ = some (.int .i64 1) := HL.out.cell 1
  have l2 : W2.cell? ⟨gl, 2, none⟩ = some (.int .i64 2) := HL.out.cell 2
  have l3 : W2.cell? ⟨gl, 3, none⟩ = some (.int .i64 3) := HL.out.cell 3
  have l4 : W2.cell? ⟨gl, 4, none⟩ = some (.int .i64 (3 + a)) := HL.out.cell 4
  have l5 : W2.cell? ⟨gl, 5, none⟩ = some (.int .i64 a) := HL.out.cell 5
  have l6 : W2.cell? ⟨gl, 6, none⟩ = some (.int .i64 (3 + 2 * a)) := HL.out.cell 6
  have l7 : W2.cell? ⟨gl, 7, none⟩ = some (.int .i64 (n - (3 + 2 * a))) := HL.out.cell 7
  have k0 := keepcell0 HB.out hrl k00
  have k1 := keepcell0 HB.out htl k10
  have k2 := keepcell0 HB.out hbl k20
  have k3 : (0 : Int) < (n : Int) := by omega
  have k5 : 0 < n := by omega
  have x1 : ¬ r = w.heap.size := by omega
  have x2 : ¬ t = w.heap.size := by omega
  have x3 : ¬ b9 = w.heap.size := by omega
  have k4 : (1 : Int) < (sl : Int) := by omega
  go_wp2_with (refine store28 (o := ⟨none, _, _, _, _, _⟩) rfl _ _ rfl w.heap.size _ _ _ _ _ _ _ _ rfl rfl _ HA.out rfl ?_)
  refine bodyPost_ret (results_c3 rfl _ _ _ w.heap.size _ rfl (load28 HA2.out rfl)) rfl ?_
  exact ⟨rfl, HB2.out⟩
set_option maxRecDepth 100000 in
set_option maxHeartbeats 1000000 in
theorem begin_ok (w : World) (r t : Nat) (s : St) (h : Rk F w r t s) (hf : s.f = false) (hn : 7 ≤ s.R.length) (hs : slotOf s ≤ 1) :
    Calls Tryd.prog 41 #[.pointer (some ⟨r, 0, none⟩)] w fun e w' => e = .returned (.tuple #[layV (areaOf s.R.length) s.R.length, .int .i64 (slotOf s : Int), .int .i64 0]) ∧ Below w.heap.size w w' := by
  have HK := Lib.hid h
  have hn2 : s.R.length ≤ 65536 := h.ok.2.2.1
  have h64 := h.ok.1
  obtain ⟨a, ha⟩ : ∃ a : Int, (areaOf s.R.length : Int) = a := ⟨_, rfl⟩
  have CD := Lib.hid (fun W => RDivide_ok W s.R.length hn hn2)
  rw [ha] at CD
  rw [ha]
  obtain ⟨n, hnn⟩ : ∃ n, s.R.length = n := ⟨_, rfl⟩
  rw [hnn] at CD
  rw [hnn]
  have HN := Lib.hid hnn
  unfold layV at *
  obtain ⟨sl, hsl⟩ : ∃ x, slotOf s = x := ⟨_, rfl⟩
  try rw [hsl]
  have hl0 := getD_len64 (i := 0) h.ok.1 (by omega)
  have HS0 := Lib.hid (show ∀ h0 : 0 < (s.R.getD 0 []).length, (((s.R.getD 0 [])[0]'h0).toNat : Int) = (sl : Int) from fun h0 => by
    rw [← hsl]
    unfold slotOf
    rw [List.getD_eq_getElem?_getD (l := s.R.getD 0 []), List.getElem?_eq_getElem h0]
    rfl)
  rw [hsl] at hs
  obtain ⟨cap2, hcap2, k00, -⟩ := h.cells
  obtain ⟨A9, c9, k10, hc9, -, hba, -⟩ := h.sec 0 (by omega)
  obtain ⟨b9, o9, rfl, hbl, -, hc2⟩ := hba.2 (by decide)
  have k20 : w.cell? ⟨b9, o9, none⟩ = some (.int .u8 (sl : Int)) := by
    have h := hc2 0 (by rw [hl0]; decide)
    rw [HS0.out] at h
    exact h
  rw [HN.out] at k00 hcap2
  have hrl : r < w.heap.size := by simpa using block_lt_of_cell k00
  have htl : t < w.heap.size := by simpa using block_lt_of_cell k10
  clear hba hc2
  have hn7 : (7 : Int) ≤ n := by omega
  clear h h64 ha hnn hsl
  obtain ⟨W0, hW0⟩ : ∃ W, W = w.alloc (.cells #[.int .i64 0, .int .i64 0, .int .i64 0, .int .i64 0, .int .i64 0, .int .i64 0, .int .i64 0, .int .i64 0] 28) := ⟨_, rfl⟩
  have hb0 : Below w.heap.size w W0 := by rw [hW0]; exact (Below.refl _ w).alloc (Nat.le_refl _) _
  have HA := Lib.hid (show Blk W0 w.heap.size 28 #[.int .i64 0, .int .i64 0, .int .i64 0, .int .i64 0, .int .i64 0, .int .i64 0, .int .i64 0, .int .i64 0] by rw [hW0]; exact Blk.new w 28 _)
  have HB := Lib.hid hb0
  replace HK := Lib.hid (HK.out.below hb0)
  clear hb0
  obtain ⟨cap, hcap, c0, c1, -⟩ := HK.out.cells
  rw [hf] at c1
  rw [HN.out] at c0 hcap
  go_enter Tryd.func41, Tryd.ntmps41
  go_upto_region 1 with fail
  rw [← hW0]
  clear hW0
  go_wp2_with fail
  refine (CD.out _).mono ?_
  rintro e w1 ⟨rfl, hb1⟩
  replace HB := Lib.hid (HB.out.trans (hb1.mono HB.out.size))
  replace HA := Lib.hid (HA.out.below hb1)
  replace HK := Lib.hid (HK.out.below hb1)
  clear hb1 c0 c1
  have HLT := Lib.hid HA.out.lt
  obtain ⟨W2, hW2⟩ : ∃ W, W = w1.alloc (.cells #[.int .i64 0, .int .i64 1, .int .i64 2, .int .i64 3, .int .i64 (3 + a), .int .i64 a, .int .i64 (3 + 2 * a), .int .i64 (n - (3 + 2 * a))] 28) := ⟨_, rfl⟩
  have hbW : Below w1.heap.size w1 W2 := by rw [hW2]; exact (Below.refl _ _).alloc (Nat.le_refl _) _
  have HL := Lib.hid (show Blk W2 w1.heap.size 28 #[.int .i64 0, .int .i64 1, .int .i64 2, .int .i64 3, .int .i64 (3 + a), .int .i64 a, .int .i64 (3 + 2 * a), .int .i64 (n - (3 + 2 * a))] by rw [hW2]; exact Blk.new w1 28 _)
  replace HB := Lib.hid (HB.out.trans (hbW.mono HB.out.size))
  replace HA := Lib.hid (HA.out.below hbW)
  replace HK := Lib.hid (HK.out.below hbW)
  have HLL : w.heap.size < w1.heap.size := HLT.out
  clear hbW
  go_upto_region 4 with fail
  rw [← hW2]
  clear hW2
  generalize w1.heap.size = gl at *
  have k0 := keepcell0 HB.out hrl k00
  have k1 := keepcell0 HB.out htl k10
  have k2 := keepcell0 HB.out hbl k20
  have k3 : (0 : Int) < (n : Int) := by omega
  have k5 : 0 < n := by omega
  have x1 : ¬ r = w.heap.size := by omega
  have x2 : ¬ t = w.heap.size := by omega
  have x3 : ¬ b9 = w.heap.size := by omega
  have k4 : ¬ (1 : Int) < (sl : Int) := by omega
  have l0 : W2.cell? ⟨gl, 0, none⟩ = some (.int .i64 0) := HL.out.cell 0
  have l1 : W2.cell? ⟨gl, 1, none⟩ = some (.int .i64 1) := HL.out.cell 1
  have l2 : W2.cell? ⟨gl, 2, none⟩ = some (.int .i64 2) := HL.out.cell 2
  have l3 : W2.cell? ⟨gl, 3, none⟩ = some (.int .i64 3) := HL.out.cell 3
  have l4 : W2.cell? ⟨gl, 4, none⟩ = some (.int .i64 (3 + a)) := HL.out.cell 4
  have l5 : W2.cell? ⟨gl, 5, none⟩ = some (.int .i64 a) := HL.out.cell 5
  have l6 : W2.cell? ⟨gl, 6, none⟩ = some (.int .i64 (3 + 2 * a)) := HL.out.cell 6
  have l7 : W2.cell? ⟨gl, 7, none⟩ = some (.int .i64 (n - (3 + 2 * a))) := HL.out.cell 7
  have m0 : W2.cell? ⟨w.heap.size, 0, none⟩ = some (.int .i64 0) := HA.out.cell 0
  have m1 : W2.cell? ⟨w.heap.size, 1, none⟩ = some (.int .i64 0) := HA.out.cell 1
  have m2 : W2.cell? ⟨w.heap.size, 2, none⟩ = some (.int .i64 0) := HA.out.cell 2
  have m3 : W2.cell? ⟨w.heap.size, 3, none⟩ = some (.int .i64 0) := HA.out.cell 3
  have m4 : W2.cell? ⟨w.heap.size, 4, none⟩ = some (.int .i64 0) := HA.out.cell 4
  have m5 : W2.cell? ⟨w.heap.size, 5, none⟩ = some (.int .i64 0) := HA.out.cell 5
  have m6 : W2.cell? ⟨w.heap.size, 6, none⟩ = some (.int .i64 0) := HA.out.cell 6
  have m7 : W2.cell? ⟨w.heap.size, 7, none⟩ = some (.int .i64 0) := HA.out.cell 7
  have zf : ∀ j, W2.frozen? ⟨w.heap.size, j, none⟩ = false := fun j => Joins.unfrozen_of_block HA.out j
  have HSET := Lib.hid (store8 HA.out 0 1 2 3 (3 + a) a (3 + 2 * a) (n - (3 + 2 * a)))
  have HCH := Lib.hid (chg8 W2 w.heap.size 0 1 2 3 (3 + a) a (3 + 2 * a) (n - (3 + 2 * a)))
  have HBB := Lib.hid (HCH.out.below HB.out (fun k hk => by omega) HB.out.size)
  obtain ⟨W9, hW9⟩ : ∃ W, W = ((((((((W2.setCell ⟨w.heap.size, 0, none⟩ (.int .i64 0)).setCell ⟨w.heap.size, 1, none⟩ (.int .i64 1)).setCell ⟨w.heap.size, 2, none⟩ (.int .i64 2)).setCell ⟨w.heap.size, 3, none⟩ (.int .i64 3)).setCell ⟨w.heap.size, 4, none⟩ (.int .i64 (3 + a))).setCell ⟨w.heap.size, 5, none⟩ (.int .i64 a)).setCell ⟨w.heap.size, 6, none⟩ (.int .i64 (3 + 2 * a))).setCell ⟨w.heap.size, 7, none⟩ (.int .i64 (n - (3 + 2 * a)))) := ⟨_, rfl⟩
  rw [← hW9] at HSET HBB
  clear HCH
  go_wp2_with fail
  go_region
  all_goals
    go_wp2_with fail
    rw [← hW9]
    clear hW9
    refine bodyPost_ret (results_c3 rfl _ _ _ w.heap.size _ rfl (load28_row 0 1 2 3 (3 + a) a (3 + 2 * a) (n - (3 + 2 * a)) (by exact HSET.out))) rfl ?_
    refine ⟨rfl, ?_⟩
    first | exact HBB.out | exact below_drew HBB.out
end
end Go.Proofs.YthhpilkhcomhbaaDoor
