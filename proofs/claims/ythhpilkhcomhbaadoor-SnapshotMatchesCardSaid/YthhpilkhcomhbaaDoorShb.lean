/- The bytes of a header. -/
import Derived.Test.YthhpilkhcomhbaaDoorSpg
import Derived.StillTail
import Derived.StillTactics
namespace Go.Proofs.YthhpilkhcomhbaaDoor
open Go.ChangeShapes Go.WideShapes Go.ChangeAt Go.RowKit Go.ChangeMaps

def hdrV (e n c : Nat) : Value := .agg #[.int .u32 (e : Int), .int .u32 (n : Int), .int .u64 (c : Int)]
theorem splice_app {l1 l2 cs : List UInt8} (h : cs.length ≤ l2.length) : splice (l1 ++ l2) l1.length cs = l1 ++ (cs ++ l2.drop cs.length) := by
  unfold splice
  rw [List.take_left, List.drop_append, List.drop_of_length_le (by omega), List.nil_append, Nat.add_sub_cancel_left]
theorem splice_len {l cs : List UInt8} {off : Nat} (h : off + cs.length ≤ l.length) : (splice l off cs).length = l.length := by unfold splice; simp; omega
theorem spl1_len (e : Nat) : (splice zeros 0 (be 4 e)).length = 64 := splice_len (by rw [be_len]; decide)
theorem spl2_len (e n : Nat) : (splice (splice zeros 0 (be 4 e)) 4 (be 4 n)).length = 64 := by rw [splice_len (by rw [be_len, spl1_len]; decide), spl1_len]
theorem hdr_eq (e n c : Nat) : splice (splice (splice zeros 0 (be 4 e)) 4 (be 4 n)) 8 (be 8 c) = hdr e n c := by
  have e1 : splice zeros 0 (be 4 e) = be 4 e ++ List.replicate 60 0 := by
    have := splice_app (l1 := []) (l2 := zeros) (cs := be 4 e) (by rw [be_len]; decide)
    rw [List.nil_append, List.length_nil, List.nil_append, be_len] at this
    rw [this]; rfl
  rw [e1]
  have e2 := splice_app (l1 := be 4 e) (l2 := List.replicate 60 0) (cs := be 4 n) (by rw [be_len]; simp)
  rw [be_len, be_len, List.drop_replicate] at e2
  rw [e2, ← List.append_assoc]
  have e3 := splice_app (l1 := be 4 e ++ be 4 n) (l2 := List.replicate (60 - 4) 0) (cs := be 8 c) (by rw [be_len]; simp)
  rw [List.length_append, be_len, be_len, be_len, List.drop_replicate] at e3
  rw [e3, List.append_assoc]
  rfl
/-- A region that draws its order: its head only reads and calls quietly; its tail waits for it. -/
theorem region_tail {P : Program} {id : Nat} {Q : Exit → Act → World → Prop} {a : Act} {w : World} {l : List Oper} (n : Nat) (hm : P.follows .mixedOrders = true) (hB : Region.lexTailB .any l.toArray n = true)
    (h : ∀ D : World, Below w.heap.size w D → D.heap.size = w.heap.size → wpStill P l.toArray D (fun a' => wpList P l.toArray Q (l.drop n) a' D) (l.take n) a) : (Code.region id l.toArray true).wp P Q a w :=
  wp_region_still_tail n hm hB (h _ ⟨rfl, rfl, rfl, Nat.le_refl _, fun _ _ => rfl⟩ rfl)
set_option maxRecDepth 100000 in
theorem hbytes_any (w : World) (e n c : Nat) (he : e < 4294967296) (hn : n < 4294967296) : Calls Tryd.prog 39 #[hdrV e n c] w fun e' w' => ∃ g, e' = .returned (.slice (some ⟨g, 0, none⟩) 64 64) ∧ w.heap.size ≤ g ∧ Blk w' g 5 (bc (hdr e n c)).toArray ∧ Below w.heap.size w w' := by
  have hw : IntKind.u64.wrap (n : Int) = n := by rw [IntKind.wrap_u64]; omega
  obtain ⟨cs, hcs, hmk⟩ := make64
  have HE := Lib.hid (hdr_eq e n c)
  unfold hdrV
  go_enter Tryd.func39, Tryd.ntmps39
  go_wp2_with fail
  have HH := Lib.hid (show Blk ((w.alloc (.cells #[.int .u32 (e : Int), .int .u32 (n : Int), .int .u64 (c : Int)] 76)).alloc (.cells cs 5)) w.heap.size 76 #[.int .u32 (e : Int), .int .u32 (n : Int), .int .u64 (c : Int)] from (Blk.new w 76 _).alloc _)
  have HK := Lib.hid (show Blk ((w.alloc (.cells #[.int .u32 (e : Int), .int .u32 (n : Int), .int .u64 (c : Int)] 76)).alloc (.cells cs 5)) (w.heap.size + 1) 5 (bc zeros).toArray from by rw [hcs.out]; exact Blk.new_ (by simp) rfl)
  have HB := Lib.hid (show Below w.heap.size w ((w.alloc (.cells #[.int .u32 (e : Int), .int .u32 (n : Int), .int .u64 (c : Int)] 76)).alloc (.cells cs 5)) from ((Below.refl _ w).alloc (Nat.le_refl _) _).alloc (by simp) _)
  generalize (w.alloc (.cells #[.int .u32 (e : Int), .int .u32 (n : Int), .int .u64 (c : Int)] 76)).alloc (.cells cs 5) = W at *
  refine (put_any W (w.heap.size + 1) 0 64 64 4 e zeros HK.out (by decide) (by decide) (by decide)).mono ?_
  rintro e1 w1 ⟨rfl, hb1, hc1⟩
  replace HH := Lib.hid (HH.out.chg hc1 (by omega))
  replace HB := Lib.hid (hc1.below HB.out (fun k hk => by omega) HB.out.size)
  replace HK := Lib.hid hb1
  clear hb1 hc1
  go_wp2_with fail
  refine region_tail 5 (by kernel_rfl) (by kernel_rfl) (fun D hD hs => ?_)
  simp only [List.take_succ_cons, List.take_zero, List.drop_succ_cons, List.drop_zero]
  replace HH := Lib.hid (HH.out.below hD)
  replace HB := Lib.hid (HB.out.trans (hD.mono HB.out.size))
  replace HK := Lib.hid (HK.out.below hD)
  clear hD hs
  have c1 : D.cell? ⟨w.heap.size, 1, none⟩ = some (.int .u32 (n : Int)) := HH.out.cell 1
  repeat still_step
  refine wpStill_nil ?_
  go_wp2_with fail
  refine (put_any D (w.heap.size + 1) 4 60 60 4 n _ HK.out (by rw [spl1_len]; decide) (by decide) (by decide)).mono ?_
  rintro e1 w1 ⟨rfl, hb1, hc1⟩
  replace HH := Lib.hid (HH.out.chg hc1 (by omega))
  replace HB := Lib.hid (hc1.below HB.out (fun k hk => by omega) HB.out.size)
  replace HK := Lib.hid hb1
  clear hb1 hc1 c1
  go_wp2_with fail
  refine region_tail 4 (by kernel_rfl) (by kernel_rfl) (fun D hD hs => ?_)
  simp only [List.take_succ_cons, List.take_zero, List.drop_succ_cons, List.drop_zero]
  replace HH := Lib.hid (HH.out.below hD)
  replace HB := Lib.hid (HB.out.trans (hD.mono HB.out.size))
  replace HK := Lib.hid (HK.out.below hD)
  clear hD hs
  have c1 : D.cell? ⟨w.heap.size, 2, none⟩ = some (.int .u64 (c : Int)) := HH.out.cell 2
  repeat still_step
  refine wpStill_nil ?_
  go_wp2_with fail
  refine (put_any D (w.heap.size + 1) 8 56 56 8 c _ HK.out (by rw [spl2_len]; decide) (by decide) (by decide)).mono ?_
  rintro e1 w2 ⟨rfl, hb1, hc1⟩
  rw [HE.out] at hb1
  replace HB := Lib.hid (hc1.below HB.out (fun k hk => by omega) HB.out.size)
  replace HK := Lib.hid hb1
  clear hb1 hc1 c1
  go_wp2
  go_ret
  exact ⟨_, rfl, by omega, HK.out, HB.out⟩
end Go.Proofs.YthhpilkhcomhbaaDoor
