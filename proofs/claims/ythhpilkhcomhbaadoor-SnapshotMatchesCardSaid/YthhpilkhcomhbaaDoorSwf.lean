/- Filling a sector; the current version. -/
import Derived.Test.YthhpilkhcomhbaaDoorShb
import Derived.Test.YthhpilkhcomhbaaDoorSdv
import Derived.Test.YthhpilkhcomhbaaDoorSpg
import Derived.Test.YthhpilkhcomhbaaDoorDls
import Derived.Handy
import Derived.StillTail
import Derived.StillTactics
import Derived.Laws.Tables
import Derived.Laws.Rows
import Derived.Test.YthhpilkhcomhbaaDoorMix
namespace Go.Proofs.YthhpilkhcomhbaaDoor
open Go.ChangeShapes Go.WideShapes Go.ChangeAt Go.RowKit Go.ChangeMaps

theorem copy_blk {w0 w : World} {g o : Nat} {L d : List UInt8} {A : Option Addr} {n c : Nat} (m : Nat) (hm : m = L.length) (hK : Blk w g 5 (bc L).toArray) (hB : Below w0.heap.size w0 w) (hg : w0.heap.size ≤ g) (hd : BytesAt w A n d) (hn : o + n ≤ m) :
    ∃ (k : Value) (W : World), (Builtin.copy_ #[36, 36] 3 #[.slice (some ⟨g, o, none⟩) (m - o) (m - o), .slice A n c]).run Tryd.prog w = .ok k W ∧ Blk W g 5 (bc (splice L o d)).toArray ∧ Below w0.heap.size w0 W ∧ Chg (fun b => b = g) w W := by
  subst hm
  have hl := hd.1
  rcases Nat.eq_zero_or_pos n with h0 | h0
  · subst h0
    obtain rfl : d = [] := List.eq_nil_of_length_eq_zero hl
    exact ⟨_, _, run_copy_none (P := Tryd.prog) w 36 36 3 5 _ _ _ _ 0 c Tryd.underlying36 size5 rfl, by simpa [splice] using hK, hB, Chg.refl _ _⟩
  · obtain ⟨b, off, rfl, hbl, hcc⟩ := hd.2 h0
    have hcl : (bc d).length = Nat.min n (L.length - o) := by rw [bc_len, hl]; exact (Nat.min_eq_left (by omega)).symm
    have hdt : d.take n = d := List.take_of_length_le (by omega)
    refine ⟨_, _, run_copy_spl (P := Tryd.prog) w 36 36 3 5 g o (L.length - o) (L.length - o) ⟨b, off, none⟩ n c _ 5 (bc d) Tryd.underlying36 size5 hK hcl (fun j v hj => src_take (n := n) hcc j v (by rw [hdt]; exact hj)) ?_ (bc_one _), ?_, ?_, ?_⟩
    · rw [bc_len, bc_len]; omega
    · rw [bc_splice]
      exact setRow_heap w g (bc L).toArray _ 5 _ hK
    · exact below_setRow hB hg _
    · exact (Chg.refl _ _).row rfl
theorem pad_splice {d : List UInt8} (h : d.length ≤ 64) : splice zeros 0 d = padS d := by
  unfold splice padS zeros
  rw [List.take_zero, List.nil_append, List.drop_replicate, List.take_of_length_le h, Nat.zero_add]
set_option maxRecDepth 100000 in
theorem wfill_any (w : World) (p q : Nat) (s : St) (h : Dk w p q s) (hx : s.x < 1000000000) (i : Int) (A : Option Addr) (n c : Nat) (d : List UInt8) (hd : BytesAt w A n d) (hn : n ≤ 64) :
    Calls Tryd.prog 37 #[.pointer (some ⟨p, 0, none⟩), .int .i64 i, .slice A n c] w fun e w' => e = .returned (.int .i64 (s.Wr i (padS d)).2) ∧ Dk w' p q (s.Wr i (padS d)).1 ∧ Chg (PQ p q) w w' := by
  obtain ⟨cs, hcs, hmk⟩ := make64
  have HK0 := Lib.hid (show Blk (w.alloc (.cells cs 5)) w.heap.size 5 (bc zeros).toArray from by rw [hcs.out]; exact Blk.new _ _ _)
  have hb0 : Below w.heap.size w (w.alloc (.cells cs 5)) := (Below.refl _ w).alloc (Nat.le_refl _) _
  clear hcs
  obtain ⟨kv, W1, qc, hk1, hb1, hc1⟩ := copy_blk (c := c) (o := 0) 64 rfl HK0.out hb0 (Nat.le_refl _) (hd.below hb0) (by omega)
  rw [pad_splice (by rw [hd.1]; exact hn)] at hk1
  have HD := Lib.hid (h.below hb1)
  have HA := Lib.hid (ba_of_blk (n := 64) hk1 (padS_len d) (h.fresh (Nat.le_refl _)))
  have HB := Lib.hid hb1
  have qc2 : (Builtin.copy_ #[36, 36] 3 #[.slice (some ⟨w.heap.size, 0, none⟩) 64 64, .slice A n c]).run Tryd.prog (w.alloc (.cells cs 5)) = .ok kv W1 := qc
  have CW := Lib.hid (Write_any W1 p q s HD.out hx i _ 64 64 _ HA.out (by decide))
  generalize s.Wr i (padS d) = r at *
  clear hb1 hk1 hc1 hb0 h hd HK0 qc HA
  go_enter Tryd.func37, Tryd.ntmps37
  go_wp2_with fail
  refine CW.out.mono ?_
  rintro e w2 ⟨rfl, hd2, hc2⟩
  have HD2 := Lib.hid hd2
  have HC2 := Lib.hid hc2
  clear hd2 hc2
  go_wp2
  go_ret
  exact ⟨rfl, HD2.out, (Chg.of_below HB.out).trans HC2.out⟩
theorem store24 {ops : Array Oper} {rest : List Oper} {o : Oper} {a : Act} {w : World} {Q : Exit → Act → World → Prop} (hgd : o.guard = none) (x y : Operand) (ho : o.op = .store 24 x y)
    (g : Nat) (a0 a1 a2 a3 a4 a5 a6 a7 : Int) (hx : a.eval x = .pointer (some ⟨g, 0, none⟩)) (hy : a.eval y = .agg #[.int .i64 a0, .int .i64 a1, .int .i64 a2, .int .i64 a3, .int .i64 a4, .int .i64 a5, .int .i64 a6, .int .i64 a7])
    (old : Array Value) (hg : Blk w g 24 old) (hold : old.size = 8)
    (h : wpList Tryd.prog ops Q rest (a.put o.dst undef) (w.setRow g #[.int .i64 a0, .int .i64 a1, .int .i64 a2, .int .i64 a3, .int .i64 a4, .int .i64 a5, .int .i64 a6, .int .i64 a7])) : wpList Tryd.prog ops Q (o :: rest) a w :=
  wpList_store_row hgd 24 x y ho g _ hx hy 24 old hg (by kernel_rfl) hold (by simp [Value.oneCell']) h
theorem store76 {ops : Array Oper} {rest : List Oper} {o : Oper} {a : Act} {w : World} {Q : Exit → Act → World → Prop} (hgd : o.guard = none) (x y : Operand) (ho : o.op = .store 76 x y)
    (g : Nat) (a0 a1 a2 : Int) (hx : a.eval x = .pointer (some ⟨g, 0, none⟩)) (hy : a.eval y = .agg #[.int .u32 a0, .int .u32 a1, .int .u64 a2])
    (old : Array Value) (hg : Blk w g 76 old) (hold : old.size = 3)
    (h : wpList Tryd.prog ops Q rest (a.put o.dst undef) (w.setRow g #[.int .u32 a0, .int .u32 a1, .int .u64 a2])) : wpList Tryd.prog ops Q (o :: rest) a w :=
  wpList_store_row hgd 76 x y ho g _ hx hy 76 old hg (by kernel_rfl) hold (by simp [Value.oneCell']) h
theorem results_c4 {fn : Func} {p u q v : Tmp} {ty tz : TypeId} (h : fn.results = #[.cell p ty, .tmp u, .cell q tz, .tmp v]) (tmps : Array Value) (P : Program) (w : World) (g1 g2 : Nat) (X Y : Value)
    (hp : tmps.getD p undef = .pointer (some ⟨g1, 0, none⟩)) (hq : tmps.getD q undef = .pointer (some ⟨g2, 0, none⟩)) (h1 : (loadVar ty ⟨g1, 0, none⟩).run P w = .ok X w) (h2 : (loadVar tz ⟨g2, 0, none⟩).run P w = .ok Y w) :
    (results fn tmps).run P w = .ok (.tuple #[X, tmps.getD u undef, Y, tmps.getD v undef]) w := by
  have hp' : tmps[p]?.getD undef = .pointer (some ⟨g1, 0, none⟩) := by simpa using hp
  have hq' : tmps[q]?.getD undef = .pointer (some ⟨g2, 0, none⟩) := by simpa using hq
  simp [results, h, hp', hq', asAddr, h1, h2, Sem.run_bind, Result.andThen]
theorem load24 {w : World} {g : Nat} {cs : Array Value} (h : Blk w g 24 cs) (hs : cs.size = 8) : (loadVar 24 ⟨g, 0, none⟩).run Tryd.prog w = .ok (.agg cs) w :=
  run_loadVar_row w g 24 24 cs (0, 0) _ h Tryd.underlying24 rfl (by rw [hs]; kernel_rfl)
theorem load76 {w : World} {g : Nat} {cs : Array Value} (h : Blk w g 76 cs) (hs : cs.size = 3) : (loadVar 76 ⟨g, 0, none⟩).run Tryd.prog w = .ok (.agg cs) w :=
  run_loadVar_row w g 76 76 cs (0, 0) _ h Tryd.underlying76 rfl (by rw [hs]; kernel_rfl)
theorem Blk.setRow {w : World} {g : Nat} {t : TypeId} {cs ds : Array Value} (h : Blk w g t cs) : Blk (w.setRow g ds) g t ds := setRow_heap w g cs ds t _ h
theorem hdrV0 : hdrV 0 0 0 = .agg #[.int .u32 0, .int .u32 0, .int .u64 0] := rfl
set_option maxRecDepth 100000 in
set_option maxHeartbeats 1000000 in
theorem cur_fail (w : World) (p q : Nat) (s : St) (h : Dk w p q s) (hf : s.f = true) :
    Calls Tryd.prog 36 #[.pointer (some ⟨p, 0, none⟩)] w fun e w' => e = .returned (.tuple #[lay0, .int .i64 0, hdrV 0 0 0, .int .i64 15]) ∧ Below w.heap.size w w' := by
  have HD := Lib.hid h
  clear h
  rw [hdrV0]
  unfold lay0
  go_enter Tryd.func36, Tryd.ntmps36
  go_wp2_with fail
  have HB := Lib.hid (show Below w.heap.size w ((w.alloc (.cells #[.int .i64 0, .int .i64 0, .int .i64 0, .int .i64 0, .int .i64 0, .int .i64 0, .int .i64 0, .int .i64 0] 24)).alloc (.cells #[.int .u32 0, .int .u32 0, .int .u64 0] 76)) from ((Below.refl _ w).alloc (Nat.le_refl _) _).alloc (by simp) _)
  have HA := Lib.hid (show Blk ((w.alloc (.cells #[.int .i64 0, .int .i64 0, .int .i64 0, .int .i64 0, .int .i64 0, .int .i64 0, .int .i64 0, .int .i64 0] 24)).alloc (.cells #[.int .u32 0, .int .u32 0, .int .u64 0] 76)) w.heap.size 24 #[.int .i64 0, .int .i64 0, .int .i64 0, .int .i64 0, .int .i64 0, .int .i64 0, .int .i64 0, .int .i64 0] from (Blk.new w 24 _).alloc _)
  have HC := Lib.hid (show Blk ((w.alloc (.cells #[.int .i64 0, .int .i64 0, .int .i64 0, .int .i64 0, .int .i64 0, .int .i64 0, .int .i64 0, .int .i64 0] 24)).alloc (.cells #[.int .u32 0, .int .u32 0, .int .u64 0] 76)) (w.heap.size + 1) 76 #[.int .u32 0, .int .u32 0, .int .u64 0] from Blk.new_ (by simp) rfl)
  replace HD := Lib.hid (HD.out.below HB.out)
  refine (Failed_any _ p q _ HD.out).mono ?_
  rintro e w0 ⟨rfl, rfl⟩
  rw [hf]
  go_wp2
  go_returns
  exact ⟨rfl, HB.out⟩
set_option maxRecDepth 100000 in
set_option maxHeartbeats 1000000 in
theorem cur_small (w : World) (p q : Nat) (s : St) (h : Dk w p q s) (hf : s.f = false) (hn : s.R.length < 7) :
    Calls Tryd.prog 36 #[.pointer (some ⟨p, 0, none⟩)] w fun e w' => e = .returned (.tuple #[lay0, .int .i64 0, hdrV 0 0 0, .int .i64 1]) ∧ Below w.heap.size w w' := by
  have HD := Lib.hid h
  have CD := Lib.hid (fun W => Divide_bad W (s.R.length : Nat) (.inl (by omega)))
  clear h hn
  rw [hdrV0]
  unfold lay0 at *
  go_enter Tryd.func36, Tryd.ntmps36
  go_wp2_with fail
  have HB := Lib.hid (show Below w.heap.size w ((w.alloc (.cells #[.int .i64 0, .int .i64 0, .int .i64 0, .int .i64 0, .int .i64 0, .int .i64 0, .int .i64 0, .int .i64 0] 24)).alloc (.cells #[.int .u32 0, .int .u32 0, .int .u64 0] 76)) from ((Below.refl _ w).alloc (Nat.le_refl _) _).alloc (by simp) _)
  have HA := Lib.hid (show Blk ((w.alloc (.cells #[.int .i64 0, .int .i64 0, .int .i64 0, .int .i64 0, .int .i64 0, .int .i64 0, .int .i64 0, .int .i64 0] 24)).alloc (.cells #[.int .u32 0, .int .u32 0, .int .u64 0] 76)) w.heap.size 24 #[.int .i64 0, .int .i64 0, .int .i64 0, .int .i64 0, .int .i64 0, .int .i64 0, .int .i64 0, .int .i64 0] from (Blk.new w 24 _).alloc _)
  have HC := Lib.hid (show Blk ((w.alloc (.cells #[.int .i64 0, .int .i64 0, .int .i64 0, .int .i64 0, .int .i64 0, .int .i64 0, .int .i64 0, .int .i64 0] 24)).alloc (.cells #[.int .u32 0, .int .u32 0, .int .u64 0] 76)) (w.heap.size + 1) 76 #[.int .u32 0, .int .u32 0, .int .u64 0] from Blk.new_ (by simp) rfl)
  replace HD := Lib.hid (HD.out.below HB.out)
  refine (Failed_any _ p q _ HD.out).mono ?_
  rintro e w0 ⟨rfl, rfl⟩
  rw [hf]
  go_wp2_with fail
  refine (Sectors_any _ p q _ HD.out).mono ?_
  rintro e w0 ⟨rfl, rfl⟩
  generalize s.R.length = n at *
  go_wp2_with fail
  refine (CD.out _).mono ?_
  rintro e w1 ⟨rfl, hb1⟩
  replace HB := Lib.hid (HB.out.trans (hb1.mono HB.out.size))
  replace HA := Lib.hid (HA.out.below hb1)
  replace HC := Lib.hid (HC.out.below hb1)
  replace HD := Lib.hid (HD.out.below hb1)
  clear hb1
  obtain ⟨W, hW⟩ : ∃ W, w1.alloc (.cells #[.int .i64 0, .int .i64 0, .int .i64 0, .int .i64 0, .int .i64 0, .int .i64 0, .int .i64 0, .int .i64 0] 24) = W := ⟨_, rfl⟩
  have hbW : Below w1.heap.size w1 W := by rw [← hW]; exact (Below.refl _ _).alloc (Nat.le_refl _) _
  replace HB := Lib.hid (HB.out.trans (hbW.mono HB.out.size))
  replace HA := Lib.hid (HA.out.below hbW)
  replace HC := Lib.hid (HC.out.below hbW)
  replace HD := Lib.hid (HD.out.below hbW)
  clear hbW
  have hc1 : Chg (fun k => k = w.heap.size) W (W.setRow w.heap.size #[.int .i64 0, .int .i64 0, .int .i64 0, .int .i64 0, .int .i64 0, .int .i64 0, .int .i64 0, .int .i64 0]) := (Chg.refl _ _).row rfl
  have HA2 := Lib.hid (HA.out.setRow (ds := #[.int .i64 0, .int .i64 0, .int .i64 0, .int .i64 0, .int .i64 0, .int .i64 0, .int .i64 0, .int .i64 0]))
  have HC2 := Lib.hid (HC.out.chg hc1 (by omega))
  have hc2 : Chg (fun k => k = w.heap.size + 1) (W.setRow w.heap.size #[.int .i64 0, .int .i64 0, .int .i64 0, .int .i64 0, .int .i64 0, .int .i64 0, .int .i64 0, .int .i64 0]) ((W.setRow w.heap.size #[.int .i64 0, .int .i64 0, .int .i64 0, .int .i64 0, .int .i64 0, .int .i64 0, .int .i64 0, .int .i64 0]).setRow (w.heap.size + 1) #[.int .u32 0, .int .u32 0, .int .u64 0]) := (Chg.refl _ _).row rfl
  have HA3 := Lib.hid (HA2.out.chg hc2 (by omega))
  have HC3 := Lib.hid (HC2.out.setRow (ds := #[.int .u32 0, .int .u32 0, .int .u64 0]))
  have HB3 := Lib.hid (hc2.below (hc1.below HB.out (fun k hk => by omega) HB.out.size) (fun k hk => by omega) (Nat.le_trans HB.out.size hc1.size))
  clear hc1 hc2
  subst hW
  go_wp2_with (first | (refine store24 (o := ⟨none, _, _, _, _, _⟩) rfl _ _ rfl w.heap.size _ _ _ _ _ _ _ _ rfl rfl _ HA.out rfl ?_) | (refine store76 (o := ⟨none, _, _, _, _, _⟩) rfl _ _ rfl (w.heap.size + 1) _ _ _ rfl rfl _ HC2.out rfl ?_))
  refine bodyPost_ret (results_c4 rfl _ _ _ w.heap.size (w.heap.size + 1) _ _ rfl rfl (load24 HA3.out rfl) (load76 HC3.out rfl)) rfl ?_
  exact ⟨rfl, HB3.out⟩
set_option maxRecDepth 100000 in
set_option maxHeartbeats 1000000 in
theorem cur_slot (w : World) (p q : Nat) (s : St) (h : Dk w p q s) (hf : s.f = false) (hn : 7 ≤ s.R.length) (hs : 1 < slotOf s) :
    Calls Tryd.prog 36 #[.pointer (some ⟨p, 0, none⟩)] w fun e w' => e = .returned (.tuple #[lay0, .int .i64 0, hdrV 0 0 0, .int .i64 17]) ∧ Below w.heap.size w w' := by
  have HD := Lib.hid h
  have hn2 : s.R.length ≤ 65536 := h.2.2.2.2.2.1
  obtain ⟨a, ha⟩ : ∃ a : Int, (areaOf s.R.length : Int) = a := ⟨_, rfl⟩
  have hb16 : 1 ≤ a ∧ a ≤ 16383 := by rw [← ha]; unfold areaOf; omega
  have CD := Lib.hid (fun W => Divide_ok W s.R.length hn hn2)
  rw [ha] at CD
  obtain ⟨n, hnn⟩ : ∃ n, s.R.length = n := ⟨_, rfl⟩
  rw [hnn] at CD
  have HN := Lib.hid hnn
  clear hnn
  unfold layV at CD
  have CR := Lib.hid (fun W (hW : Dk W p q s) => Read_ok W p q s hW hf 0 (by omega))
  have hl0 := getD_len64 (i := 0) h.2.2.2.1 (by omega)
  obtain ⟨sl, hsl⟩ : ∃ x, slotOf s = x := ⟨_, rfl⟩
  have HS0 := Lib.hid (fun (W : World) (g : Nat) (hW : Blk W g 83 (bc (s.R.getD 0 [])).toArray) => show W.cell? ⟨g, 0, none⟩ = some (.int .u8 (sl : Int)) from by
    rw [hW.cell 0, List.getElem?_toArray, bc_at _ _ (by omega), ← hsl]
    unfold slotOf
    rw [List.getD_eq_getElem?_getD (l := s.R.getD 0 []), List.getElem?_eq_getElem (by omega)]
    rfl)
  have hsi : (1 : Int) < sl := by omega
  have hsu : sl < 256 := by rw [← hsl]; exact UInt8.toNat_lt _
  clear h hn hn2 ha hl0 hsl hs
  rw [hdrV0]
  unfold lay0 at *
  go_enter Tryd.func36, Tryd.ntmps36
  go_wp2_with fail
  have HB := Lib.hid (show Below w.heap.size w ((w.alloc (.cells #[.int .i64 0, .int .i64 0, .int .i64 0, .int .i64 0, .int .i64 0, .int .i64 0, .int .i64 0, .int .i64 0] 24)).alloc (.cells #[.int .u32 0, .int .u32 0, .int .u64 0] 76)) from ((Below.refl _ w).alloc (Nat.le_refl _) _).alloc (by simp) _)
  have HA := Lib.hid (show Blk ((w.alloc (.cells #[.int .i64 0, .int .i64 0, .int .i64 0, .int .i64 0, .int .i64 0, .int .i64 0, .int .i64 0, .int .i64 0] 24)).alloc (.cells #[.int .u32 0, .int .u32 0, .int .u64 0] 76)) w.heap.size 24 #[.int .i64 0, .int .i64 0, .int .i64 0, .int .i64 0, .int .i64 0, .int .i64 0, .int .i64 0, .int .i64 0] from (Blk.new w 24 _).alloc _)
  have HC := Lib.hid (show Blk ((w.alloc (.cells #[.int .i64 0, .int .i64 0, .int .i64 0, .int .i64 0, .int .i64 0, .int .i64 0, .int .i64 0, .int .i64 0] 24)).alloc (.cells #[.int .u32 0, .int .u32 0, .int .u64 0] 76)) (w.heap.size + 1) 76 #[.int .u32 0, .int .u32 0, .int .u64 0] from Blk.new_ (by simp) rfl)
  replace HD := Lib.hid (HD.out.below HB.out)
  refine (Failed_any _ p q _ HD.out).mono ?_
  rintro e w0 ⟨rfl, rfl⟩
  rw [hf]
  go_wp2_with fail
  refine (Sectors_any _ p q _ HD.out).mono ?_
  rintro e w0 ⟨rfl, rfl⟩
  rw [HN.out]
  go_wp2_with fail
  refine (CD.out _).mono ?_
  rintro e w1 ⟨rfl, hb1⟩
  replace HB := Lib.hid (HB.out.trans (hb1.mono HB.out.size))
  replace HA := Lib.hid (HA.out.below hb1)
  replace HC := Lib.hid (HC.out.below hb1)
  replace HD := Lib.hid (HD.out.below hb1)
  have HX1 : Hid (w.heap.size + 1 < w1.heap.size) := Lib.hid HC.out.lt
  have HL := Lib.hid (Blk.new w1 24 #[.int .i64 0, .int .i64 1, .int .i64 2, .int .i64 3, .int .i64 (3 + a), .int .i64 a, .int .i64 (3 + 2 * a), .int .i64 (n - (3 + 2 * a))])
  have hbW := (Below.refl w1.heap.size w1).alloc (Nat.le_refl _) (.cells #[.int .i64 0, .int .i64 1, .int .i64 2, .int .i64 3, .int .i64 (3 + a), .int .i64 a, .int .i64 (3 + 2 * a), .int .i64 (n - (3 + 2 * a))] 24)
  replace HB := Lib.hid (HB.out.trans (hbW.mono HB.out.size))
  replace HA := Lib.hid (HA.out.below hbW)
  replace HC := Lib.hid (HC.out.below hbW)
  replace HD := Lib.hid (HD.out.below hbW)
  go_wp2_with fail
  refine (CR.out _ HD.out).mono ?_
  rintro e w2 ⟨g1, rfl, hg1, hk1, hb2⟩
  have HG1 := Lib.hid hk1
  replace HB := Lib.hid (HB.out.trans (hb2.mono HB.out.size))
  replace HA := Lib.hid (HA.out.below hb2)
  replace HC := Lib.hid (HC.out.below hb2)
  replace HD := Lib.hid (HD.out.below hb2)
  replace HL := Lib.hid (HL.out.below hb2)
  clear hb1 hbW hb2 hk1
  have hgl : w1.heap.size < w2.heap.size := HL.out.lt
  have hgl2 : w.heap.size + 1 < w1.heap.size := by have := HX1.out; omega
  generalize w1.heap.size = gl at *
  have cb : w2.cell? ⟨g1, 0, none⟩ = some (.int .u8 (sl : Int)) := HS0.out _ _ HG1.out
  have hc1 : Chg (fun k => k = w.heap.size) w2 (w2.setRow w.heap.size #[.int .i64 0, .int .i64 0, .int .i64 0, .int .i64 0, .int .i64 0, .int .i64 0, .int .i64 0, .int .i64 0]) := (Chg.refl _ _).row rfl
  have HA2 := Lib.hid (HA.out.setRow (ds := #[.int .i64 0, .int .i64 0, .int .i64 0, .int .i64 0, .int .i64 0, .int .i64 0, .int .i64 0, .int .i64 0]))
  have HC2 := Lib.hid (HC.out.chg hc1 (by omega))
  have hc2 : Chg (fun k => k = w.heap.size + 1) (w2.setRow w.heap.size #[.int .i64 0, .int .i64 0, .int .i64 0, .int .i64 0, .int .i64 0, .int .i64 0, .int .i64 0, .int .i64 0]) ((w2.setRow w.heap.size #[.int .i64 0, .int .i64 0, .int .i64 0, .int .i64 0, .int .i64 0, .int .i64 0, .int .i64 0, .int .i64 0]).setRow (w.heap.size + 1) #[.int .u32 0, .int .u32 0, .int .u64 0]) := (Chg.refl _ _).row rfl
  have HA3 := Lib.hid (HA2.out.chg hc2 (by omega))
  have HC3 := Lib.hid (HC2.out.setRow (ds := #[.int .u32 0, .int .u32 0, .int .u64 0]))
  have HB3 := Lib.hid (hc2.below (hc1.below HB.out (fun k hk => by omega) HB.out.size) (fun k hk => by omega) (Nat.le_trans HB.out.size hc1.size))
  clear hc1 hc2
  go_wp2_with (first | (refine store24 (o := ⟨none, _, _, _, _, _⟩) rfl _ _ rfl w.heap.size _ _ _ _ _ _ _ _ rfl rfl _ HA.out rfl ?_) | (refine store76 (o := ⟨none, _, _, _, _, _⟩) rfl _ _ rfl (w.heap.size + 1) _ _ _ rfl rfl _ HC2.out rfl ?_))
  refine bodyPost_ret (results_c4 rfl _ _ _ w.heap.size (w.heap.size + 1) _ _ rfl rfl (load24 HA3.out rfl) (load76 HC3.out rfl)) rfl ?_
  exact ⟨rfl, HB3.out⟩
theorem hdrVe (e n c : Nat) : hdrV e n c = .agg #[.int .u32 (e : Int), .int .u32 (n : Int), .int .u64 (c : Int)] := rfl
set_option maxRecDepth 100000 in
set_option maxHeartbeats 1000000 in
theorem cur_ok0 (w : World) (p q : Nat) (s : St) (h : Dk w p q s) (hf : s.f = false) (hn : 7 ≤ s.R.length) (hs : slotOf s = 0) :
    Calls Tryd.prog 36 #[.pointer (some ⟨p, 0, none⟩)] w fun e w' => e = .returned (.tuple #[layV (areaOf s.R.length) s.R.length, .int .i64 0, hdrV (epochOf s) (lenOf s) (sumOf s), .int .i64 0]) ∧ Below w.heap.size w w' := by
  have HD := Lib.hid h
  have hn2 : s.R.length ≤ 65536 := h.2.2.2.2.2.1
  obtain ⟨a, ha⟩ : ∃ a : Int, (areaOf s.R.length : Int) = a := ⟨_, rfl⟩
  have hb16 : 1 ≤ a ∧ a ≤ 16383 := by rw [← ha]; unfold areaOf; omega
  have CD := Lib.hid (fun W => Divide_ok W s.R.length hn hn2)
  rw [ha] at CD
  obtain ⟨n, hnn⟩ : ∃ n, s.R.length = n := ⟨_, rfl⟩
  rw [hnn] at CD
  have HN := Lib.hid hnn
  clear hnn
  unfold layV at CD
  have CR := Lib.hid (fun W (hW : Dk W p q s) => Read_ok W p q s hW hf 0 (by omega))
  have hl0 := getD_len64 (i := 0) h.2.2.2.1 (by omega)
  obtain ⟨sl, hsl⟩ : ∃ x, slotOf s = x := ⟨_, rfl⟩
  have HS0 := Lib.hid (fun (W : World) (g : Nat) (hW : Blk W g 83 (bc (s.R.getD 0 [])).toArray) => show W.cell? ⟨g, 0, none⟩ = some (.int .u8 (sl : Int)) from by
    rw [hW.cell 0, List.getElem?_toArray, bc_at _ _ (by omega), ← hsl]
    unfold slotOf
    rw [List.getD_eq_getElem?_getD (l := s.R.getD 0 []), List.getElem?_eq_getElem (by omega)]
    rfl)
  rw [ha]
  obtain rfl : sl = 0 := by omega
  have hk1 : 1 < s.R.length := by omega
  have CR2 := Lib.hid (fun W (hW : Dk W p q s) => Read_ok W p q s hW hf 1 hk1)
  have hhl := getD_len64 (i := 1) h.2.2.2.1 hk1
  have hhd : hdOf s = s.R.getD 1 [] := by unfold hdOf; rw [hsl]
  obtain ⟨hd, hhd2⟩ : ∃ x, s.R.getD 1 [] = x := ⟨_, rfl⟩
  rw [hhd2] at hhd hhl CR2
  obtain ⟨E, hE⟩ : ∃ x, val (hd.take 4) = x := ⟨_, rfl⟩
  obtain ⟨N, hN⟩ : ∃ x, val ((hd.drop 4).take 4) = x := ⟨_, rfl⟩
  obtain ⟨C, hC⟩ : ∃ x, val ((hd.drop 8).take 8) = x := ⟨_, rfl⟩
  have eE : epochOf s = E := by unfold epochOf; rw [hhd, hE]
  have eN : lenOf s = N := by unfold lenOf; rw [hhd, hN]
  have eC : sumOf s = C := by unfold sumOf; rw [hhd, hC]
  rw [eE, eN, eC]
  have bE : E < 4294967296 := by rw [← hE]; have := val_lt (hd.take 4); rw [List.length_take, hhl] at this; exact this
  have bN : N < 4294967296 := by rw [← hN]; have := val_lt ((hd.drop 4).take 4); rw [List.length_take, List.length_drop, hhl] at this; exact this
  have wE : IntKind.u32.wrap (E : Int) = E := by rw [IntKind.wrap_u32]; omega
  have wN : IntKind.u32.wrap (N : Int) = N := by rw [IntKind.wrap_u32]; omega
  have HG := Lib.hid (fun (D : World) (g : Nat) (hW : Blk D g 83 (bc hd).toArray) =>
    (show (Calls Tryd.prog 47 #[.slice (some ⟨g, 0, none⟩) 4 64] D fun e w' => e = .returned (.int .u64 (E : Int)) ∧ D = w') ∧ (Calls Tryd.prog 47 #[.slice (some ⟨g, 4, none⟩) 4 60] D fun e w' => e = .returned (.int .u64 (N : Int)) ∧ D = w') ∧ (Calls Tryd.prog 47 #[.slice (some ⟨g, 8, none⟩) 8 56] D fun e w' => e = .returned (.int .u64 (C : Int)) ∧ D = w') from by
      have hb := bytes_of_blk (n := 64) hW hhl
      have h1 := get_any (some ⟨g, 0, none⟩) 4 64 _ D (hb.take (k := 4) (by decide)) (by decide)
      have h2 := get_any (some ⟨g, 4, none⟩) 4 60 _ D (by have := (hb.drop (k := 4) (by decide)).take (k := 4) (by decide); rwa [Nat.zero_add] at this) (by decide)
      have h3 := get_any (some ⟨g, 8, none⟩) 8 56 _ D (by have := (hb.drop (k := 8) (by decide)).take (k := 8) (by decide); rwa [Nat.zero_add] at this) (by decide)
      rw [hE] at h1
      rw [hN] at h2
      rw [hC] at h3
      exact ⟨h1, h2, h3⟩))
  clear h hn hn2 ha hl0 hsl hs hhl hhd hhd2 hE hN hC eE eN eC hk1 bE bN
  rw [hdrVe, HN.out]
  unfold layV at *
  go_enter Tryd.func36, Tryd.ntmps36
  go_wp2_with fail
  have HB := Lib.hid (show Below w.heap.size w ((w.alloc (.cells #[.int .i64 0, .int .i64 0, .int .i64 0, .int .i64 0, .int .i64 0, .int .i64 0, .int .i64 0, .int .i64 0] 24)).alloc (.cells #[.int .u32 0, .int .u32 0, .int .u64 0] 76)) from ((Below.refl _ w).alloc (Nat.le_refl _) _).alloc (by simp) _)
  have HA := Lib.hid (show Blk ((w.alloc (.cells #[.int .i64 0, .int .i64 0, .int .i64 0, .int .i64 0, .int .i64 0, .int .i64 0, .int .i64 0, .int .i64 0] 24)).alloc (.cells #[.int .u32 0, .int .u32 0, .int .u64 0] 76)) w.heap.size 24 #[.int .i64 0, .int .i64 0, .int .i64 0, .int .i64 0, .int .i64 0, .int .i64 0, .int .i64 0, .int .i64 0] from (Blk.new w 24 _).alloc _)
  have HC := Lib.hid (show Blk ((w.alloc (.cells #[.int .i64 0, .int .i64 0, .int .i64 0, .int .i64 0, .int .i64 0, .int .i64 0, .int .i64 0, .int .i64 0] 24)).alloc (.cells #[.int .u32 0, .int .u32 0, .int .u64 0] 76)) (w.heap.size + 1) 76 #[.int .u32 0, .int .u32 0, .int .u64 0] from Blk.new_ (by simp) rfl)
  replace HD := Lib.hid (HD.out.below HB.out)
  refine (Failed_any _ p q _ HD.out).mono ?_
  rintro e w0 ⟨rfl, rfl⟩
  rw [hf]
  go_wp2_with fail
  refine (Sectors_any _ p q _ HD.out).mono ?_
  rintro e w0 ⟨rfl, rfl⟩
  rw [HN.out]
  go_wp2_with fail
  refine (CD.out _).mono ?_
  rintro e w1 ⟨rfl, hb1⟩
  replace HB := Lib.hid (HB.out.trans (hb1.mono HB.out.size))
  replace HA := Lib.hid (HA.out.below hb1)
  replace HC := Lib.hid (HC.out.below hb1)
  replace HD := Lib.hid (HD.out.below hb1)
  have HX1 : Hid (w.heap.size + 1 < w1.heap.size) := Lib.hid HC.out.lt
  have HL := Lib.hid (Blk.new w1 24 #[.int .i64 0, .int .i64 1, .int .i64 2, .int .i64 3, .int .i64 (3 + a), .int .i64 a, .int .i64 (3 + 2 * a), .int .i64 (n - (3 + 2 * a))])
  have hbW := (Below.refl w1.heap.size w1).alloc (Nat.le_refl _) (.cells #[.int .i64 0, .int .i64 1, .int .i64 2, .int .i64 3, .int .i64 (3 + a), .int .i64 a, .int .i64 (3 + 2 * a), .int .i64 (n - (3 + 2 * a))] 24)
  replace HB := Lib.hid (HB.out.trans (hbW.mono HB.out.size))
  replace HA := Lib.hid (HA.out.below hbW)
  replace HC := Lib.hid (HC.out.below hbW)
  replace HD := Lib.hid (HD.out.below hbW)
  go_wp2_with fail
  refine (CR.out _ HD.out).mono ?_
  rintro e w2 ⟨g1, rfl, hg1, hk1, hb2⟩
  have HG1 := Lib.hid hk1
  replace HB := Lib.hid (HB.out.trans (hb2.mono HB.out.size))
  replace HA := Lib.hid (HA.out.below hb2)
  replace HC := Lib.hid (HC.out.below hb2)
  replace HD := Lib.hid (HD.out.below hb2)
  replace HL := Lib.hid (HL.out.below hb2)
  clear hb1 hbW hb2 hk1
  have hgl : w1.heap.size < w2.heap.size := HL.out.lt
  have hgl2 : w.heap.size + 1 < w1.heap.size := by have := HX1.out; omega
  generalize w1.heap.size = gl at *
  have cb : w2.cell? ⟨g1, 0, none⟩ = some (.int .u8 0) := HS0.out _ _ HG1.out
  have cl : w2.cell? ⟨gl, 1, none⟩ = some (.int .i64 1) := HL.out.cell 1
  go_wp2_with fail
  refine (CR2.out _ HD.out).mono ?_
  rintro e w3 ⟨g2, rfl, hg2, hk2, hb3⟩
  have HG2 := Lib.hid hk2
  replace HB := Lib.hid (HB.out.trans (hb3.mono HB.out.size))
  replace HA := Lib.hid (HA.out.below hb3)
  replace HC := Lib.hid (HC.out.below hb3)
  replace HD := Lib.hid (HD.out.below hb3)
  replace HL := Lib.hid (HL.out.below hb3)
  clear hk2 hb3
  go_wp2_with fail
  have hD : Below w3.heap.size w3 w3.drew := below_drew (Below.refl _ _)
  replace HB := Lib.hid (HB.out.trans (hD.mono HB.out.size))
  replace HA := Lib.hid (HA.out.below hD)
  replace HC := Lib.hid (HC.out.below hD)
  replace HD := Lib.hid (HD.out.below hD)
  replace HL := Lib.hid (HL.out.below hD)
  replace HG2 := Lib.hid (HG2.out.below hD)
  clear hD
  refine wp_region_mix 16 (fun w' => w'.cell? ⟨gl, 0, none⟩ = some (.int .i64 0) ∧ w'.cell? ⟨gl, 1, none⟩ = some (.int .i64 1) ∧ w'.cell? ⟨gl, 2, none⟩ = some (.int .i64 2) ∧ w'.cell? ⟨gl, 3, none⟩ = some (.int .i64 3) ∧ w'.cell? ⟨gl, 4, none⟩ = some (.int .i64 (3 + a)) ∧ w'.cell? ⟨gl, 5, none⟩ = some (.int .i64 a) ∧ w'.cell? ⟨gl, 6, none⟩ = some (.int .i64 (3 + 2 * a)) ∧ w'.cell? ⟨gl, 7, none⟩ = some (.int .i64 (n - (3 + 2 * a)))) (by kernel_rfl) (by decide) ?_
  generalize w3.drew = D at *
  obtain ⟨G1, G2, G3⟩ := HG.out D g2 HG2.out
  replace G1 := Lib.hid G1
  replace G2 := Lib.hid G2
  replace G3 := Lib.hid G3
  have hS0 : D.cell? ⟨gl, 0, none⟩ = some (.int .i64 0) ∧ D.cell? ⟨gl, 1, none⟩ = some (.int .i64 1) ∧ D.cell? ⟨gl, 2, none⟩ = some (.int .i64 2) ∧ D.cell? ⟨gl, 3, none⟩ = some (.int .i64 3) ∧ D.cell? ⟨gl, 4, none⟩ = some (.int .i64 (3 + a)) ∧ D.cell? ⟨gl, 5, none⟩ = some (.int .i64 a) ∧ D.cell? ⟨gl, 6, none⟩ = some (.int .i64 (3 + 2 * a)) ∧ D.cell? ⟨gl, 7, none⟩ = some (.int .i64 (n - (3 + 2 * a))) := ⟨HL.out.cell 0, HL.out.cell 1, HL.out.cell 2, HL.out.cell 3, HL.out.cell 4, HL.out.cell 5, HL.out.cell 6, HL.out.cell 7⟩
  have hc1 : Chg (fun k => k = w.heap.size) D (D.setRow w.heap.size #[.int .i64 0, .int .i64 1, .int .i64 2, .int .i64 3, .int .i64 (3 + a), .int .i64 a, .int .i64 (3 + 2 * a), .int .i64 (n - (3 + 2 * a))]) := (Chg.refl _ _).row rfl
  have HA2 := Lib.hid (HA.out.setRow (ds := #[.int .i64 0, .int .i64 1, .int .i64 2, .int .i64 3, .int .i64 (3 + a), .int .i64 a, .int .i64 (3 + 2 * a), .int .i64 (n - (3 + 2 * a))]))
  have HC2 := Lib.hid (HC.out.chg hc1 (by omega))
  have hc2 : Chg (fun k => k = w.heap.size + 1) (D.setRow w.heap.size #[.int .i64 0, .int .i64 1, .int .i64 2, .int .i64 3, .int .i64 (3 + a), .int .i64 a, .int .i64 (3 + 2 * a), .int .i64 (n - (3 + 2 * a))]) ((D.setRow w.heap.size #[.int .i64 0, .int .i64 1, .int .i64 2, .int .i64 3, .int .i64 (3 + a), .int .i64 a, .int .i64 (3 + 2 * a), .int .i64 (n - (3 + 2 * a))]).setRow (w.heap.size + 1) #[.int .u32 (E : Int), .int .u32 (N : Int), .int .u64 (C : Int)]) := (Chg.refl _ _).row rfl
  have HA3 := Lib.hid (HA2.out.chg hc2 (by omega))
  have HC3 := Lib.hid (HC2.out.setRow (ds := #[.int .u32 (E : Int), .int .u32 (N : Int), .int .u64 (C : Int)]))
  have HB3 := Lib.hid (hc2.below (hc1.below HB.out (fun k hk => by omega) HB.out.size) (fun k hk => by omega) (Nat.le_trans HB.out.size hc1.size))
  clear hc1 hc2
  have hgl0 : gl ≠ w.heap.size := by omega
  have HL2 := Lib.hid (HL.out.chg (show Chg (fun k => k = w.heap.size) D (D.setRow w.heap.size #[.int .i64 0, .int .i64 1, .int .i64 2, .int .i64 3, .int .i64 (3 + a), .int .i64 a, .int .i64 (3 + 2 * a), .int .i64 (n - (3 + 2 * a))]) from (Chg.refl _ _).row rfl) hgl0)
  have hS1 : (D.setRow w.heap.size #[.int .i64 0, .int .i64 1, .int .i64 2, .int .i64 3, .int .i64 (3 + a), .int .i64 a, .int .i64 (3 + 2 * a), .int .i64 (n - (3 + 2 * a))]).cell? ⟨gl, 0, none⟩ = some (.int .i64 0) ∧ (D.setRow w.heap.size #[.int .i64 0, .int .i64 1, .int .i64 2, .int .i64 3, .int .i64 (3 + a), .int .i64 a, .int .i64 (3 + 2 * a), .int .i64 (n - (3 + 2 * a))]).cell? ⟨gl, 1, none⟩ = some (.int .i64 1) ∧ (D.setRow w.heap.size #[.int .i64 0, .int .i64 1, .int .i64 2, .int .i64 3, .int .i64 (3 + a), .int .i64 a, .int .i64 (3 + 2 * a), .int .i64 (n - (3 + 2 * a))]).cell? ⟨gl, 2, none⟩ = some (.int .i64 2) ∧ (D.setRow w.heap.size #[.int .i64 0, .int .i64 1, .int .i64 2, .int .i64 3, .int .i64 (3 + a), .int .i64 a, .int .i64 (3 + 2 * a), .int .i64 (n - (3 + 2 * a))]).cell? ⟨gl, 3, none⟩ = some (.int .i64 3) ∧ (D.setRow w.heap.size #[.int .i64 0, .int .i64 1, .int .i64 2, .int .i64 3, .int .i64 (3 + a), .int .i64 a, .int .i64 (3 + 2 * a), .int .i64 (n - (3 + 2 * a))]).cell? ⟨gl, 4, none⟩ = some (.int .i64 (3 + a)) ∧ (D.setRow w.heap.size #[.int .i64 0, .int .i64 1, .int .i64 2, .int .i64 3, .int .i64 (3 + a), .int .i64 a, .int .i64 (3 + 2 * a), .int .i64 (n - (3 + 2 * a))]).cell? ⟨gl, 5, none⟩ = some (.int .i64 a) ∧ (D.setRow w.heap.size #[.int .i64 0, .int .i64 1, .int .i64 2, .int .i64 3, .int .i64 (3 + a), .int .i64 a, .int .i64 (3 + 2 * a), .int .i64 (n - (3 + 2 * a))]).cell? ⟨gl, 6, none⟩ = some (.int .i64 (3 + 2 * a)) ∧ (D.setRow w.heap.size #[.int .i64 0, .int .i64 1, .int .i64 2, .int .i64 3, .int .i64 (3 + a), .int .i64 a, .int .i64 (3 + 2 * a), .int .i64 (n - (3 + 2 * a))]).cell? ⟨gl, 7, none⟩ = some (.int .i64 (n - (3 + 2 * a))) := ⟨HL2.out.cell 0, HL2.out.cell 1, HL2.out.cell 2, HL2.out.cell 3, HL2.out.cell 4, HL2.out.cell 5, HL2.out.cell 6, HL2.out.cell 7⟩
  have hAo : Blk D w.heap.size 24 #[.int .i64 0, .int .i64 0, .int .i64 0, .int .i64 0, .int .i64 0, .int .i64 0, .int .i64 0, .int .i64 0] := HA.out
  refine wpM_take (i := 0) (oi := ⟨some 60, _, _, _, _, _⟩) (v := ?_) rfl (by decide +kernel) (by decide +kernel) (by decide +kernel) (fun _ _ _ h => h) (Or.inl ⟨by rfl, ?_⟩) hS0 ?_
  case refine_2 => (intro w hSw; obtain ⟨s0, s1, s2, s3, s4, s5, s6, s7⟩ := hSw; go_simp; try (with_reducible rfl))
  try simp only [Act.put, List.setIfInBounds_toArray, List.set_cons_zero, List.set_cons_succ]
  refine wpM_take (i := 1) (oi := ⟨some 61, _, _, _, _, _⟩) (v := ?_) rfl (by decide +kernel) (by decide +kernel) (by decide +kernel) (fun _ _ _ h => h) (Or.inl ⟨by rfl, ?_⟩) hS0 ?_
  case refine_2 => (intro w hSw; (try dsimp only at hSw); go_simp; try (with_reducible rfl))
  try simp only [Act.put, List.setIfInBounds_toArray, List.set_cons_zero, List.set_cons_succ]
  refine wpM_take (i := 2) (oi := ⟨some 62, _, _, _, _, _⟩) (v := ?_) rfl (by decide +kernel) (by decide +kernel) (by decide +kernel) (fun _ _ _ h => h) (Or.inl ⟨by rfl, ?_⟩) hS0 ?_
  case refine_2 => (intro w hSw; (try dsimp only at hSw); go_simp; try (with_reducible rfl))
  try simp only [Act.put, List.setIfInBounds_toArray, List.set_cons_zero, List.set_cons_succ]
  refine wpM_take (i := 3) (oi := ⟨some 63, _, _, _, _, _⟩) (v := ?_) rfl (by decide +kernel) (by decide +kernel) (by decide +kernel) (fun _ _ _ h => h) (Or.inl ⟨by rfl, ?_⟩) hS0 ?_
  case refine_2 => (intro w hSw; (try dsimp only at hSw); go_simp; try (with_reducible rfl))
  try simp only [Act.put, List.setIfInBounds_toArray, List.set_cons_zero, List.set_cons_succ]
  refine wpM_take (i := 6) (oi := ⟨some 66, _, _, _, _, _⟩) (v := ?_) rfl (by decide +kernel) (by decide +kernel) (by decide +kernel) (fun _ _ _ h => h) (Or.inl ⟨by rfl, ?_⟩) hS0 ?_
  case refine_2 => (intro w hSw; (try dsimp only at hSw); go_simp; try (with_reducible rfl))
  try simp only [Act.put, List.setIfInBounds_toArray, List.set_cons_zero, List.set_cons_succ]
  refine wpM_take (i := 7) (oi := ⟨some 67, _, _, _, _, _⟩) (v := ?_) rfl (by decide +kernel) (by decide +kernel) (by decide +kernel) (fun _ _ _ h => h) (Or.inl ⟨by rfl, ?_⟩) hS0 ?_
  case refine_2 => (intro w hSw; (try dsimp only at hSw); go_simp; try (with_reducible rfl))
  try simp only [Act.put, List.setIfInBounds_toArray, List.set_cons_zero, List.set_cons_succ]
  refine wpM_take (i := 10) (oi := ⟨some 70, _, _, _, _, _⟩) (v := ?_) rfl (by decide +kernel) (by decide +kernel) (by decide +kernel) (fun _ _ _ h => h) (Or.inl ⟨by rfl, ?_⟩) hS0 ?_
  case refine_2 => (intro w hSw; (try dsimp only at hSw); go_simp; try (with_reducible rfl))
  try simp only [Act.put, List.setIfInBounds_toArray, List.set_cons_zero, List.set_cons_succ]
  refine wpM_take (i := 11) (oi := ⟨some 71, _, _, _, _, _⟩) (v := ?_) rfl (by decide +kernel) (by decide +kernel) (by decide +kernel) (fun _ _ _ h => h) (Or.inl ⟨by rfl, ?_⟩) hS0 ?_
  case refine_2 => (intro w hSw; (try dsimp only at hSw); go_simp; try (with_reducible rfl))
  try simp only [Act.put, List.setIfInBounds_toArray, List.set_cons_zero, List.set_cons_succ]
  refine wpM_step (i := 4) (o := ⟨some 64, _, _, _, _, _⟩) rfl (by decide +kernel) (by decide) (fun K hK => ?_)
  go_simp
  go_at_call 47
  refine G1.out.mono ?_
  rintro e9 w9 ⟨rfl, rfl⟩
  refine hK.out _ _ hS0 ?_
  clear hK K
  try simp only [Act.put, List.setIfInBounds_toArray, List.set_cons_zero, List.set_cons_succ]
  refine wpM_take (i := 5) (oi := ⟨some 65, _, _, _, _, _⟩) (v := ?_) rfl (by decide +kernel) (by decide +kernel) (by decide +kernel) (fun _ _ _ h => h) (Or.inl ⟨by rfl, ?_⟩) hS0 ?_
  case refine_2 => (intro w hSw; (try dsimp only at hSw); go_simp; try (with_reducible rfl))
  try simp only [Act.put, List.setIfInBounds_toArray, List.set_cons_zero, List.set_cons_succ]
  refine wpM_step (i := 8) (o := ⟨some 68, _, _, _, _, _⟩) rfl (by decide +kernel) (by decide) (fun K hK => ?_)
  go_simp
  go_at_call 47
  refine G2.out.mono ?_
  rintro e9 w9 ⟨rfl, rfl⟩
  refine hK.out _ _ hS0 ?_
  clear hK K
  try simp only [Act.put, List.setIfInBounds_toArray, List.set_cons_zero, List.set_cons_succ]
  refine wpM_take (i := 9) (oi := ⟨some 69, _, _, _, _, _⟩) (v := ?_) rfl (by decide +kernel) (by decide +kernel) (by decide +kernel) (fun _ _ _ h => h) (Or.inl ⟨by rfl, ?_⟩) hS0 ?_
  case refine_2 => (intro w hSw; (try dsimp only at hSw); go_simp; try (with_reducible rfl))
  try simp only [Act.put, List.setIfInBounds_toArray, List.set_cons_zero, List.set_cons_succ]
  refine wpM_step (i := 12) (o := ⟨some 72, _, _, _, _, _⟩) rfl (by decide +kernel) (by decide) (fun K hK => ?_)
  go_simp
  go_at_call 47
  refine G3.out.mono ?_
  rintro e9 w9 ⟨rfl, rfl⟩
  refine hK.out _ _ hS0 ?_
  clear hK K
  try simp only [Act.put, List.setIfInBounds_toArray, List.set_cons_zero, List.set_cons_succ]
  refine wpM_take (i := 13) (oi := ⟨some 73, _, _, _, _, _⟩) (v := ?_) rfl (by decide +kernel) (by decide +kernel) (by decide +kernel) (fun _ _ _ h => h) (Or.inl ⟨by rfl, ?_⟩) hS0 ?_
  case refine_2 => (intro w hSw; (try dsimp only at hSw); go_simp; try (with_reducible rfl))
  try simp only [Act.put, List.setIfInBounds_toArray, List.set_cons_zero, List.set_cons_succ]
  refine wpM_step (i := 14) (o := ⟨none, _, _, _, _, _⟩) rfl (by decide +kernel) (by decide) (fun K hK => ?_)
  rw [if_pos (by rfl)]
  refine wp_store_row 24 _ _ rfl w.heap.size _ rfl rfl 24 _ hAo (by kernel_rfl) rfl (by simp [Value.oneCell']) ?_
  refine hK.out _ _ hS1 ?_
  clear hK K
  try simp only [Act.put, List.setIfInBounds_toArray, List.set_cons_zero, List.set_cons_succ]
  refine wpM_take (i := 15) (oi := ⟨some 3, _, _, _, _, _⟩) (v := ?_) rfl (by decide +kernel) (by decide +kernel) (by decide +kernel) (fun _ _ _ h => h) (Or.inl ⟨by rfl, ?_⟩) hS1 ?_
  case refine_2 => (intro w hSw; (try dsimp only at hSw); go_simp; try (with_reducible rfl))
  try simp only [Act.put, List.setIfInBounds_toArray, List.set_cons_zero, List.set_cons_succ]
  refine wpM_done (by decide +kernel) ?_
  simp only [List.drop_succ_cons, List.drop_zero]
  go_wp2_with (first | (refine store24 (o := ⟨none, _, _, _, _, _⟩) rfl _ _ rfl w.heap.size _ _ _ _ _ _ _ _ rfl rfl _ HA.out rfl ?_) | (refine store76 (o := ⟨none, _, _, _, _, _⟩) rfl _ _ rfl (w.heap.size + 1) _ _ _ rfl rfl _ HC2.out rfl ?_))
  refine bodyPost_ret (results_c4 rfl _ _ _ w.heap.size (w.heap.size + 1) _ _ rfl rfl (load24 HA3.out rfl) (load76 HC3.out rfl)) rfl ?_
  exact ⟨rfl, HB3.out⟩
set_option maxRecDepth 100000 in
set_option maxHeartbeats 1000000 in
theorem cur_ok1 (w : World) (p q : Nat) (s : St) (h : Dk w p q s) (hf : s.f = false) (hn : 7 ≤ s.R.length) (hs : slotOf s = 1) :
    Calls Tryd.prog 36 #[.pointer (some ⟨p, 0, none⟩)] w fun e w' => e = .returned (.tuple #[layV (areaOf s.R.length) s.R.length, .int .i64 1, hdrV (epochOf s) (lenOf s) (sumOf s), .int .i64 0]) ∧ Below w.heap.size w w' := by
  have HD := Lib.hid h
  have hn2 : s.R.length ≤ 65536 := h.2.2.2.2.2.1
  obtain ⟨a, ha⟩ : ∃ a : Int, (areaOf s.R.length : Int) = a := ⟨_, rfl⟩
  have hb16 : 1 ≤ a ∧ a ≤ 16383 := by rw [← ha]; unfold areaOf; omega
  have CD := Lib.hid (fun W => Divide_ok W s.R.length hn hn2)
  rw [ha] at CD
  obtain ⟨n, hnn⟩ : ∃ n, s.R.length = n := ⟨_, rfl⟩
  rw [hnn] at CD
  have HN := Lib.hid hnn
  clear hnn
  unfold layV at CD
  have CR := Lib.hid (fun W (hW : Dk W p q s) => Read_ok W p q s hW hf 0 (by omega))
  have hl0 := getD_len64 (i := 0) h.2.2.2.1 (by omega)
  obtain ⟨sl, hsl⟩ : ∃ x, slotOf s = x := ⟨_, rfl⟩
  have HS0 := Lib.hid (fun (W : World) (g : Nat) (hW : Blk W g 83 (bc (s.R.getD 0 [])).toArray) => show W.cell? ⟨g, 0, none⟩ = some (.int .u8 (sl : Int)) from by
    rw [hW.cell 0, List.getElem?_toArray, bc_at _ _ (by omega), ← hsl]
    unfold slotOf
    rw [List.getD_eq_getElem?_getD (l := s.R.getD 0 []), List.getElem?_eq_getElem (by omega)]
    rfl)
  rw [ha]
  obtain rfl : sl = 1 := by omega
  have hk1 : 2 < s.R.length := by omega
  have CR2 := Lib.hid (fun W (hW : Dk W p q s) => Read_ok W p q s hW hf 2 hk1)
  have hhl := getD_len64 (i := 2) h.2.2.2.1 hk1
  have hhd : hdOf s = s.R.getD 2 [] := by unfold hdOf; rw [hsl]
  obtain ⟨hd, hhd2⟩ : ∃ x, s.R.getD 2 [] = x := ⟨_, rfl⟩
  rw [hhd2] at hhd hhl CR2
  obtain ⟨E, hE⟩ : ∃ x, val (hd.take 4) = x := ⟨_, rfl⟩
  obtain ⟨N, hN⟩ : ∃ x, val ((hd.drop 4).take 4) = x := ⟨_, rfl⟩
  obtain ⟨C, hC⟩ : ∃ x, val ((hd.drop 8).take 8) = x := ⟨_, rfl⟩
  have eE : epochOf s = E := by unfold epochOf; rw [hhd, hE]
  have eN : lenOf s = N := by unfold lenOf; rw [hhd, hN]
  have eC : sumOf s = C := by unfold sumOf; rw [hhd, hC]
  rw [eE, eN, eC]
  have bE : E < 4294967296 := by rw [← hE]; have := val_lt (hd.take 4); rw [List.length_take, hhl] at this; exact this
  have bN : N < 4294967296 := by rw [← hN]; have := val_lt ((hd.drop 4).take 4); rw [List.length_take, List.length_drop, hhl] at this; exact this
  have wE : IntKind.u32.wrap (E : Int) = E := by rw [IntKind.wrap_u32]; omega
  have wN : IntKind.u32.wrap (N : Int) = N := by rw [IntKind.wrap_u32]; omega
  have HG := Lib.hid (fun (D : World) (g : Nat) (hW : Blk D g 83 (bc hd).toArray) =>
    (show (Calls Tryd.prog 47 #[.slice (some ⟨g, 0, none⟩) 4 64] D fun e w' => e = .returned (.int .u64 (E : Int)) ∧ D = w') ∧ (Calls Tryd.prog 47 #[.slice (some ⟨g, 4, none⟩) 4 60] D fun e w' => e = .returned (.int .u64 (N : Int)) ∧ D = w') ∧ (Calls Tryd.prog 47 #[.slice (some ⟨g, 8, none⟩) 8 56] D fun e w' => e = .returned (.int .u64 (C : Int)) ∧ D = w') from by
      have hb := bytes_of_blk (n := 64) hW hhl
      have h1 := get_any (some ⟨g, 0, none⟩) 4 64 _ D (hb.take (k := 4) (by decide)) (by decide)
      have h2 := get_any (some ⟨g, 4, none⟩) 4 60 _ D (by have := (hb.drop (k := 4) (by decide)).take (k := 4) (by decide); rwa [Nat.zero_add] at this) (by decide)
      have h3 := get_any (some ⟨g, 8, none⟩) 8 56 _ D (by have := (hb.drop (k := 8) (by decide)).take (k := 8) (by decide); rwa [Nat.zero_add] at this) (by decide)
      rw [hE] at h1
      rw [hN] at h2
      rw [hC] at h3
      exact ⟨h1, h2, h3⟩))
  clear h hn hn2 ha hl0 hsl hs hhl hhd hhd2 hE hN hC eE eN eC hk1 bE bN
  rw [hdrVe, HN.out]
  unfold layV at *
  go_enter Tryd.func36, Tryd.ntmps36
  go_wp2_with fail
  have HB := Lib.hid (show Below w.heap.size w ((w.alloc (.cells #[.int .i64 0, .int .i64 0, .int .i64 0, .int .i64 0, .int .i64 0, .int .i64 0, .int .i64 0, .int .i64 0] 24)).alloc (.cells #[.int .u32 0, .int .u32 0, .int .u64 0] 76)) from ((Below.refl _ w).alloc (Nat.le_refl _) _).alloc (by simp) _)
  have HA := Lib.hid (show Blk ((w.alloc (.cells #[.int .i64 0, .int .i64 0, .int .i64 0, .int .i64 0, .int .i64 0, .int .i64 0, .int .i64 0, .int .i64 0] 24)).alloc (.cells #[.int .u32 0, .int .u32 0, .int .u64 0] 76)) w.heap.size 24 #[.int .i64 0, .int .i64 0, .int .i64 0, .int .i64 0, .int .i64 0, .int .i64 0, .int .i64 0, .int .i64 0] from (Blk.new w 24 _).alloc _)
  have HC := Lib.hid (show Blk ((w.alloc (.cells #[.int .i64 0, .int .i64 0, .int .i64 0, .int .i64 0, .int .i64 0, .int .i64 0, .int .i64 0, .int .i64 0] 24)).alloc (.cells #[.int .u32 0, .int .u32 0, .int .u64 0] 76)) (w.heap.size + 1) 76 #[.int .u32 0, .int .u32 0, .int .u64 0] from Blk.new_ (by simp) rfl)
  replace HD := Lib.hid (HD.out.below HB.out)
  refine (Failed_any _ p q _ HD.out).mono ?_
  rintro e w0 ⟨rfl, rfl⟩
  rw [hf]
  go_wp2_with fail
  refine (Sectors_any _ p q _ HD.out).mono ?_
  rintro e w0 ⟨rfl, rfl⟩
  rw [HN.out]
  go_wp2_with fail
  refine (CD.out _).mono ?_
  rintro e w1 ⟨rfl, hb1⟩
  replace HB := Lib.hid (HB.out.trans (hb1.mono HB.out.size))
  replace HA := Lib.hid (HA.out.below hb1)
  replace HC := Lib.hid (HC.out.below hb1)
  replace HD := Lib.hid (HD.out.below hb1)
  have HX1 : Hid (w.heap.size + 1 < w1.heap.size) := Lib.hid HC.out.lt
  have HL := Lib.hid (Blk.new w1 24 #[.int .i64 0, .int .i64 1, .int .i64 2, .int .i64 3, .int .i64 (3 + a), .int .i64 a, .int .i64 (3 + 2 * a), .int .i64 (n - (3 + 2 * a))])
  have hbW := (Below.refl w1.heap.size w1).alloc (Nat.le_refl _) (.cells #[.int .i64 0, .int .i64 1, .int .i64 2, .int .i64 3, .int .i64 (3 + a), .int .i64 a, .int .i64 (3 + 2 * a), .int .i64 (n - (3 + 2 * a))] 24)
  replace HB := Lib.hid (HB.out.trans (hbW.mono HB.out.size))
  replace HA := Lib.hid (HA.out.below hbW)
  replace HC := Lib.hid (HC.out.below hbW)
  replace HD := Lib.hid (HD.out.below hbW)
  go_wp2_with fail
  refine (CR.out _ HD.out).mono ?_
  rintro e w2 ⟨g1, rfl, hg1, hk1, hb2⟩
  have HG1 := Lib.hid hk1
  replace HB := Lib.hid (HB.out.trans (hb2.mono HB.out.size))
  replace HA := Lib.hid (HA.out.below hb2)
  replace HC := Lib.hid (HC.out.below hb2)
  replace HD := Lib.hid (HD.out.below hb2)
  replace HL := Lib.hid (HL.out.below hb2)
  clear hb1 hbW hb2 hk1
  have hgl : w1.heap.size < w2.heap.size := HL.out.lt
  have hgl2 : w.heap.size + 1 < w1.heap.size := by have := HX1.out; omega
  generalize w1.heap.size = gl at *
  have cb : w2.cell? ⟨g1, 0, none⟩ = some (.int .u8 1) := HS0.out _ _ HG1.out
  have cl : w2.cell? ⟨gl, 2, none⟩ = some (.int .i64 2) := HL.out.cell 2
  go_wp2_with fail
  refine (CR2.out _ HD.out).mono ?_
  rintro e w3 ⟨g2, rfl, hg2, hk2, hb3⟩
  have HG2 := Lib.hid hk2
  replace HB := Lib.hid (HB.out.trans (hb3.mono HB.out.size))
  replace HA := Lib.hid (HA.out.below hb3)
  replace HC := Lib.hid (HC.out.below hb3)
  replace HD := Lib.hid (HD.out.below hb3)
  replace HL := Lib.hid (HL.out.below hb3)
  clear hk2 hb3
  go_wp2_with fail
  have hD : Below w3.heap.size w3 w3.drew := below_drew (Below.refl _ _)
  replace HB := Lib.hid (HB.out.trans (hD.mono HB.out.size))
  replace HA := Lib.hid (HA.out.below hD)
  replace HC := Lib.hid (HC.out.below hD)
  replace HD := Lib.hid (HD.out.below hD)
  replace HL := Lib.hid (HL.out.below hD)
  replace HG2 := Lib.hid (HG2.out.below hD)
  clear hD
  refine wp_region_mix 16 (fun w' => w'.cell? ⟨gl, 0, none⟩ = some (.int .i64 0) ∧ w'.cell? ⟨gl, 1, none⟩ = some (.int .i64 1) ∧ w'.cell? ⟨gl, 2, none⟩ = some (.int .i64 2) ∧ w'.cell? ⟨gl, 3, none⟩ = some (.int .i64 3) ∧ w'.cell? ⟨gl, 4, none⟩ = some (.int .i64 (3 + a)) ∧ w'.cell? ⟨gl, 5, none⟩ = some (.int .i64 a) ∧ w'.cell? ⟨gl, 6, none⟩ = some (.int .i64 (3 + 2 * a)) ∧ w'.cell? ⟨gl, 7, none⟩ = some (.int .i64 (n - (3 + 2 * a)))) (by kernel_rfl) (by decide) ?_
  generalize w3.drew = D at *
  obtain ⟨G1, G2, G3⟩ := HG.out D g2 HG2.out
  replace G1 := Lib.hid G1
  replace G2 := Lib.hid G2
  replace G3 := Lib.hid G3
  have hS0 : D.cell? ⟨gl, 0, none⟩ = some (.int .i64 0) ∧ D.cell? ⟨gl, 1, none⟩ = some (.int .i64 1) ∧ D.cell? ⟨gl, 2, none⟩ = some (.int .i64 2) ∧ D.cell? ⟨gl, 3, none⟩ = some (.int .i64 3) ∧ D.cell? ⟨gl, 4, none⟩ = some (.int .i64 (3 + a)) ∧ D.cell? ⟨gl, 5, none⟩ = some (.int .i64 a) ∧ D.cell? ⟨gl, 6, none⟩ = some (.int .i64 (3 + 2 * a)) ∧ D.cell? ⟨gl, 7, none⟩ = some (.int .i64 (n - (3 + 2 * a))) := ⟨HL.out.cell 0, HL.out.cell 1, HL.out.cell 2, HL.out.cell 3, HL.out.cell 4, HL.out.cell 5, HL.out.cell 6, HL.out.cell 7⟩
  have hc1 : Chg (fun k => k = w.heap.size) D (D.setRow w.heap.size #[.int .i64 0, .int .i64 1, .int .i64 2, .int .i64 3, .int .i64 (3 + a), .int .i64 a, .int .i64 (3 + 2 * a), .int .i64 (n - (3 + 2 * a))]) := (Chg.refl _ _).row rfl
  have HA2 := Lib.hid (HA.out.setRow (ds := #[.int .i64 0, .int .i64 1, .int .i64 2, .int .i64 3, .int .i64 (3 + a), .int .i64 a, .int .i64 (3 + 2 * a), .int .i64 (n - (3 + 2 * a))]))
  have HC2 := Lib.hid (HC.out.chg hc1 (by omega))
  have hc2 : Chg (fun k => k = w.heap.size + 1) (D.setRow w.heap.size #[.int .i64 0, .int .i64 1, .int .i64 2, .int .i64 3, .int .i64 (3 + a), .int .i64 a, .int .i64 (3 + 2 * a), .int .i64 (n - (3 + 2 * a))]) ((D.setRow w.heap.size #[.int .i64 0, .int .i64 1, .int .i64 2, .int .i64 3, .int .i64 (3 + a), .int .i64 a, .int .i64 (3 + 2 * a), .int .i64 (n - (3 + 2 * a))]).setRow (w.heap.size + 1) #[.int .u32 (E : Int), .int .u32 (N : Int), .int .u64 (C : Int)]) := (Chg.refl _ _).row rfl
  have HA3 := Lib.hid (HA2.out.chg hc2 (by omega))
  have HC3 := Lib.hid (HC2.out.setRow (ds := #[.int .u32 (E : Int), .int .u32 (N : Int), .int .u64 (C : Int)]))
  have HB3 := Lib.hid (hc2.below (hc1.below HB.out (fun k hk => by omega) HB.out.size) (fun k hk => by omega) (Nat.le_trans HB.out.size hc1.size))
  clear hc1 hc2
  have hgl0 : gl ≠ w.heap.size := by omega
  have HL2 := Lib.hid (HL.out.chg (show Chg (fun k => k = w.heap.size) D (D.setRow w.heap.size #[.int .i64 0, .int .i64 1, .int .i64 2, .int .i64 3, .int .i64 (3 + a), .int .i64 a, .int .i64 (3 + 2 * a), .int .i64 (n - (3 + 2 * a))]) from (Chg.refl _ _).row rfl) hgl0)
  have hS1 : (D.setRow w.heap.size #[.int .i64 0, .int .i64 1, .int .i64 2, .int .i64 3, .int .i64 (3 + a), .int .i64 a, .int .i64 (3 + 2 * a), .int .i64 (n - (3 + 2 * a))]).cell? ⟨gl, 0, none⟩ = some (.int .i64 0) ∧ (D.setRow w.heap.size #[.int .i64 0, .int .i64 1, .int .i64 2, .int .i64 3, .int .i64 (3 + a), .int .i64 a, .int .i64 (3 + 2 * a), .int .i64 (n - (3 + 2 * a))]).cell? ⟨gl, 1, none⟩ = some (.int .i64 1) ∧ (D.setRow w.heap.size #[.int .i64 0, .int .i64 1, .int .i64 2, .int .i64 3, .int .i64 (3 + a), .int .i64 a, .int .i64 (3 + 2 * a), .int .i64 (n - (3 + 2 * a))]).cell? ⟨gl, 2, none⟩ = some (.int .i64 2) ∧ (D.setRow w.heap.size #[.int .i64 0, .int .i64 1, .int .i64 2, .int .i64 3, .int .i64 (3 + a), .int .i64 a, .int .i64 (3 + 2 * a), .int .i64 (n - (3 + 2 * a))]).cell? ⟨gl, 3, none⟩ = some (.int .i64 3) ∧ (D.setRow w.heap.size #[.int .i64 0, .int .i64 1, .int .i64 2, .int .i64 3, .int .i64 (3 + a), .int .i64 a, .int .i64 (3 + 2 * a), .int .i64 (n - (3 + 2 * a))]).cell? ⟨gl, 4, none⟩ = some (.int .i64 (3 + a)) ∧ (D.setRow w.heap.size #[.int .i64 0, .int .i64 1, .int .i64 2, .int .i64 3, .int .i64 (3 + a), .int .i64 a, .int .i64 (3 + 2 * a), .int .i64 (n - (3 + 2 * a))]).cell? ⟨gl, 5, none⟩ = some (.int .i64 a) ∧ (D.setRow w.heap.size #[.int .i64 0, .int .i64 1, .int .i64 2, .int .i64 3, .int .i64 (3 + a), .int .i64 a, .int .i64 (3 + 2 * a), .int .i64 (n - (3 + 2 * a))]).cell? ⟨gl, 6, none⟩ = some (.int .i64 (3 + 2 * a)) ∧ (D.setRow w.heap.size #[.int .i64 0, .int .i64 1, .int .i64 2, .int .i64 3, .int .i64 (3 + a), .int .i64 a, .int .i64 (3 + 2 * a), .int .i64 (n - (3 + 2 * a))]).cell? ⟨gl, 7, none⟩ = some (.int .i64 (n - (3 + 2 * a))) := ⟨HL2.out.cell 0, HL2.out.cell 1, HL2.out.cell 2, HL2.out.cell 3, HL2.out.cell 4, HL2.out.cell 5, HL2.out.cell 6, HL2.out.cell 7⟩
  have hAo : Blk D w.heap.size 24 #[.int .i64 0, .int .i64 0, .int .i64 0, .int .i64 0, .int .i64 0, .int .i64 0, .int .i64 0, .int .i64 0] := HA.out
  refine wpM_take (i := 0) (oi := ⟨some 60, _, _, _, _, _⟩) (v := ?_) rfl (by decide +kernel) (by decide +kernel) (by decide +kernel) (fun _ _ _ h => h) (Or.inl ⟨by rfl, ?_⟩) hS0 ?_
  case refine_2 => (intro w hSw; obtain ⟨s0, s1, s2, s3, s4, s5, s6, s7⟩ := hSw; go_simp; try (with_reducible rfl))
  try simp only [Act.put, List.setIfInBounds_toArray, List.set_cons_zero, List.set_cons_succ]
  refine wpM_take (i := 1) (oi := ⟨some 61, _, _, _, _, _⟩) (v := ?_) rfl (by decide +kernel) (by decide +kernel) (by decide +kernel) (fun _ _ _ h => h) (Or.inl ⟨by rfl, ?_⟩) hS0 ?_
  case refine_2 => (intro w hSw; (try dsimp only at hSw); go_simp; try (with_reducible rfl))
  try simp only [Act.put, List.setIfInBounds_toArray, List.set_cons_zero, List.set_cons_succ]
  refine wpM_take (i := 2) (oi := ⟨some 62, _, _, _, _, _⟩) (v := ?_) rfl (by decide +kernel) (by decide +kernel) (by decide +kernel) (fun _ _ _ h => h) (Or.inl ⟨by rfl, ?_⟩) hS0 ?_
  case refine_2 => (intro w hSw; (try dsimp only at hSw); go_simp; try (with_reducible rfl))
  try simp only [Act.put, List.setIfInBounds_toArray, List.set_cons_zero, List.set_cons_succ]
  refine wpM_take (i := 3) (oi := ⟨some 63, _, _, _, _, _⟩) (v := ?_) rfl (by decide +kernel) (by decide +kernel) (by decide +kernel) (fun _ _ _ h => h) (Or.inl ⟨by rfl, ?_⟩) hS0 ?_
  case refine_2 => (intro w hSw; (try dsimp only at hSw); go_simp; try (with_reducible rfl))
  try simp only [Act.put, List.setIfInBounds_toArray, List.set_cons_zero, List.set_cons_succ]
  refine wpM_take (i := 6) (oi := ⟨some 66, _, _, _, _, _⟩) (v := ?_) rfl (by decide +kernel) (by decide +kernel) (by decide +kernel) (fun _ _ _ h => h) (Or.inl ⟨by rfl, ?_⟩) hS0 ?_
  case refine_2 => (intro w hSw; (try dsimp only at hSw); go_simp; try (with_reducible rfl))
  try simp only [Act.put, List.setIfInBounds_toArray, List.set_cons_zero, List.set_cons_succ]
  refine wpM_take (i := 7) (oi := ⟨some 67, _, _, _, _, _⟩) (v := ?_) rfl (by decide +kernel) (by decide +kernel) (by decide +kernel) (fun _ _ _ h => h) (Or.inl ⟨by rfl, ?_⟩) hS0 ?_
  case refine_2 => (intro w hSw; (try dsimp only at hSw); go_simp; try (with_reducible rfl))
  try simp only [Act.put, List.setIfInBounds_toArray, List.set_cons_zero, List.set_cons_succ]
  refine wpM_take (i := 10) (oi := ⟨some 70, _, _, _, _, _⟩) (v := ?_) rfl (by decide +kernel) (by decide +kernel) (by decide +kernel) (fun _ _ _ h => h) (Or.inl ⟨by rfl, ?_⟩) hS0 ?_
  case refine_2 => (intro w hSw; (try dsimp only at hSw); go_simp; try (with_reducible rfl))
  try simp only [Act.put, List.setIfInBounds_toArray, List.set_cons_zero, List.set_cons_succ]
  refine wpM_take (i := 11) (oi := ⟨some 71, _, _, _, _, _⟩) (v := ?_) rfl (by decide +kernel) (by decide +kernel) (by decide +kernel) (fun _ _ _ h => h) (Or.inl ⟨by rfl, ?_⟩) hS0 ?_
  case refine_2 => (intro w hSw; (try dsimp only at hSw); go_simp; try (with_reducible rfl))
  try simp only [Act.put, List.setIfInBounds_toArray, List.set_cons_zero, List.set_cons_succ]
  refine wpM_step (i := 4) (o := ⟨some 64, _, _, _, _, _⟩) rfl (by decide +kernel) (by decide) (fun K hK => ?_)
  go_simp
  go_at_call 47
  refine G1.out.mono ?_
  rintro e9 w9 ⟨rfl, rfl⟩
  refine hK.out _ _ hS0 ?_
  clear hK K
  try simp only [Act.put, List.setIfInBounds_toArray, List.set_cons_zero, List.set_cons_succ]
  refine wpM_take (i := 5) (oi := ⟨some 65, _, _, _, _, _⟩) (v := ?_) rfl (by decide +kernel) (by decide +kernel) (by decide +kernel) (fun _ _ _ h => h) (Or.inl ⟨by rfl, ?_⟩) hS0 ?_
  case refine_2 => (intro w hSw; (try dsimp only at hSw); go_simp; try (with_reducible rfl))
  try simp only [Act.put, List.setIfInBounds_toArray, List.set_cons_zero, List.set_cons_succ]
  refine wpM_step (i := 8) (o := ⟨some 68, _, _, _, _, _⟩) rfl (by decide +kernel) (by decide) (fun K hK => ?_)
  go_simp
  go_at_call 47
  refine G2.out.mono ?_
  rintro e9 w9 ⟨rfl, rfl⟩
  refine hK.out _ _ hS0 ?_
  clear hK K
  try simp only [Act.put, List.setIfInBounds_toArray, List.set_cons_zero, List.set_cons_succ]
  refine wpM_take (i := 9) (oi := ⟨some 69, _, _, _, _, _⟩) (v := ?_) rfl (by decide +kernel) (by decide +kernel) (by decide +kernel) (fun _ _ _ h => h) (Or.inl ⟨by rfl, ?_⟩) hS0 ?_
  case refine_2 => (intro w hSw; (try dsimp only at hSw); go_simp; try (with_reducible rfl))
  try simp only [Act.put, List.setIfInBounds_toArray, List.set_cons_zero, List.set_cons_succ]
  refine wpM_step (i := 12) (o := ⟨some 72, _, _, _, _, _⟩) rfl (by decide +kernel) (by decide) (fun K hK => ?_)
  go_simp
  go_at_call 47
  refine G3.out.mono ?_
  rintro e9 w9 ⟨rfl, rfl⟩
  refine hK.out _ _ hS0 ?_
  clear hK K
  try simp only [Act.put, List.setIfInBounds_toArray, List.set_cons_zero, List.set_cons_succ]
  refine wpM_take (i := 13) (oi := ⟨some 73, _, _, _, _, _⟩) (v := ?_) rfl (by decide +kernel) (by decide +kernel) (by decide +kernel) (fun _ _ _ h => h) (Or.inl ⟨by rfl, ?_⟩) hS0 ?_
  case refine_2 => (intro w hSw; (try dsimp only at hSw); go_simp; try (with_reducible rfl))
  try simp only [Act.put, List.setIfInBounds_toArray, List.set_cons_zero, List.set_cons_succ]
  refine wpM_step (i := 14) (o := ⟨none, _, _, _, _, _⟩) rfl (by decide +kernel) (by decide) (fun K hK => ?_)
  rw [if_pos (by rfl)]
  refine wp_store_row 24 _ _ rfl w.heap.size _ rfl rfl 24 _ hAo (by kernel_rfl) rfl (by simp [Value.oneCell']) ?_
  refine hK.out _ _ hS1 ?_
  clear hK K
  try simp only [Act.put, List.setIfInBounds_toArray, List.set_cons_zero, List.set_cons_succ]
  refine wpM_take (i := 15) (oi := ⟨some 3, _, _, _, _, _⟩) (v := ?_) rfl (by decide +kernel) (by decide +kernel) (by decide +kernel) (fun _ _ _ h => h) (Or.inl ⟨by rfl, ?_⟩) hS1 ?_
  case refine_2 => (intro w hSw; (try dsimp only at hSw); go_simp; try (with_reducible rfl))
  try simp only [Act.put, List.setIfInBounds_toArray, List.set_cons_zero, List.set_cons_succ]
  refine wpM_done (by decide +kernel) ?_
  simp only [List.drop_succ_cons, List.drop_zero]
  go_wp2_with (first | (refine store24 (o := ⟨none, _, _, _, _, _⟩) rfl _ _ rfl w.heap.size _ _ _ _ _ _ _ _ rfl rfl _ HA.out rfl ?_) | (refine store76 (o := ⟨none, _, _, _, _, _⟩) rfl _ _ rfl (w.heap.size + 1) _ _ _ rfl rfl _ HC2.out rfl ?_))
  refine bodyPost_ret (results_c4 rfl _ _ _ w.heap.size (w.heap.size + 1) _ _ rfl rfl (load24 HA3.out rfl) (load76 HC3.out rfl)) rfl ?_
  exact ⟨rfl, HB3.out⟩
theorem cur_ok (w : World) (p q : Nat) (s : St) (h : Dk w p q s) (hf : s.f = false) (hn : 7 ≤ s.R.length) (hs : slotOf s ≤ 1) :
    Calls Tryd.prog 36 #[.pointer (some ⟨p, 0, none⟩)] w fun e w' => e = .returned (.tuple #[layV (areaOf s.R.length) s.R.length, .int .i64 (slotOf s : Nat), hdrV (epochOf s) (lenOf s) (sumOf s), .int .i64 0]) ∧ Below w.heap.size w w' := by
  rcases (show slotOf s = 0 ∨ slotOf s = 1 by omega) with hs | hs
  · have := cur_ok0 w p q s h hf hn hs
    rw [hs]; exact this
  · have := cur_ok1 w p q s h hf hn hs
    rw [hs]; exact this
end Go.Proofs.YthhpilkhcomhbaaDoor
