/- Integers, inequalities and uses of the awake. -/
import Derived.Test.YthfolccofjaknaaCng
import Derived.Test.YthfolccofjaknaaBrz
namespace Go.Proofs.Ythfolccofjaknaa
open Go.ChangeShapes Go.WideShapes Go.ChangeAt Go.RowKit Go.ChangeMaps

theorem Own.rowT {w : World} {base g : Nat} {T : TypeId} {A : Option Addr} {n : Nat} {D : List Nat} {cs : Array Value} (h : Own w base A n D) (hk : Blk w g T cs) (hT : T ≠ 86) (ds : Array Value) : Own (w.setRow g ds) base A n D :=
  ⟨h.1, h.2.1, fun hn => by
    obtain ⟨g2, off, cs2, e, hg, hb, hc⟩ := h.2.2 hn
    refine ⟨g2, off, cs2, e, hg, ((grown_row w g ds).block _ hb.lt ?_).trans hb, hc⟩
    intro e
    injection e with e
    subst e
    have := hb.symm.trans hk
    injection this with this
    injection this with _ e2
    exact absurd e2.symm hT⟩
theorem NB.rowT {w : World} {base g N : Nat} {T : TypeId} {v : Value} {z : Int} {cs : Array Value} (h : NB w base v z N) (hk : Blk w g T cs) (hT : T ≠ 86) (ds : Array Value) : NB (w.setRow g ds) base v z N :=
  let ⟨A, n, c, D, e, ho, hs, hn, hv, hN⟩ := h; ⟨A, n, c, D, e, ho.rowT hk hT ds, hs, hn, hv, hN⟩
theorem Rw.rowT {w : World} {B g g2 N : Nat} {T : TypeId} {L : List Bg} {cs : Array Value} (h : Rw w B g L N) (hk : Blk w g2 T cs) (hT : T ≠ 86) (hT2 : T ≠ 37) (ds : Array Value) : Rw (w.setRow g2 ds) B g L N := by
  refine ⟨h.1, ((grown_row w g2 ds).block _ h.2.1.lt ?_).trans h.2.1, fun b hb => (h.2.2 b hb).rowT hk hT ds⟩
  intro e
  injection e with e
  subst e
  have := h.2.1.symm.trans hk
  injection this with this
  injection this with _ e2
  exact absurd e2.symm hT2
theorem row_below {B g : Nat} {w w0 : World} (h : Below B w0 w) (hg : B ≤ g) (hs : B ≤ w.heap.size) (ds : Array Value) : Below B w0 (w.setRow g ds) := h.grown (grown_row w g ds) hs (fun j hj => by injection hj with hj; omega)
theorem load44 {w : World} {g : Nat} {cs : Array Value} (h : Blk w g 44 cs) (hs : cs.size = 3) : (loadVar 44 ⟨g, 0, none⟩).run Try.prog w = .ok (.agg cs) w :=
  run_loadVar_row w g 44 44 cs (0, 0) _ h Try.underlying44 rfl (by rw [hs]; kernel_rfl)
theorem load62 {w : World} {g : Nat} {cs : Array Value} (h : Blk w g 62 cs) (hs : cs.size = 3) : (loadVar 62 ⟨g, 0, none⟩).run Try.prog w = .ok (.agg cs) w :=
  run_loadVar_row w g 62 62 cs (0, 0) _ h Try.underlying62 rfl (by rw [hs]; kernel_rfl)
theorem load52 {w : World} {g : Nat} {cs : Array Value} (h : Blk w g 52 cs) (hs : cs.size = 5) : (loadVar 52 ⟨g, 0, none⟩).run Try.prog w = .ok (.agg cs) w :=
  run_loadVar_row w g 52 52 cs (0, 0) _ h Try.underlying52 rfl (by rw [hs]; kernel_rfl)
theorem results_c2 {fn : Func} {p u : Tmp} {ty : TypeId} (h : fn.results = #[.cell p ty, .tmp u]) (tmps : Array Value) (P : Program) (w : World) (g : Nat) (X : Value)
    (hp : tmps.getD p undef = .pointer (some ⟨g, 0, none⟩)) (h1 : (loadVar ty ⟨g, 0, none⟩).run P w = .ok X w) : (results fn tmps).run P w = .ok (.tuple #[X, tmps.getD u undef]) w := by
  have hp' : tmps[p]?.getD undef = .pointer (some ⟨g, 0, none⟩) := by simpa using hp
  simp [results, h, hp', asAddr, h1, Sem.run_bind, Result.andThen]
/-- An integer as the awake and the law make it. -/
def NbP (w : World) (z : Int) (N : Nat) (e : Ending) (w' : World) : Prop := ∃ b : Bg, e = .returned b.val ∧ b.z = z ∧ NB w' w.heap.size b.val z N ∧ Below w.heap.size w w'
theorem abs2 {a : Int} (h0 : -9223372036854775808 ≤ a) (h1 : a ≤ 9223372036854775807) : a.natAbs < 4294967296 ^ 2 := by omega
set_option maxRecDepth 100000 in
set_option maxHeartbeats 2000000 in
theorem lbig_any (a : Int) (w : World) (h0 : -9223372036854775808 ≤ a) (h1 : a ≤ 9223372036854775807) : Calls Try.prog 33 #[.int .i64 a] w (NbP w a 2) := by
  obtain ⟨g, hg⟩ : ∃ g, g = w.heap.size := ⟨_, rfl⟩
  obtain ⟨W1, hW1⟩ : ∃ W1, W1 = w.alloc (.cells #[.bool false, .slice none 0 0] 37) := ⟨_, rfl⟩
  have HB1 := Lib.hid (show Below w.heap.size w W1 by rw [hW1]; exact (Below.refl _ _).alloc (Nat.le_refl _) _)
  have KX := Lib.hid (show Blk W1 g 37 #[.bool false, .slice none 0 0] by rw [hW1]; exact Blk.new_ hg rfl)
  have CC := Lib.hid (ROf_any a W1 h0 h1)
  have H2 := Lib.hid (abs2 h0 h1)
  have hgw : w.heap.size ≤ g := by omega
  clear h0 h1
  go_enter Try.func33, Try.ntmps33
  go_wp2_with fail
  rw [← hg, ← hW1]
  clear hg hW1
  refine CC.out.mono ?_
  rintro e w2 ⟨v, rfl, hv, hb⟩
  have HB2 := Lib.hid (HB1.out.trans (hb.mono HB1.out.size))
  have HV := Lib.hid ((hv.mono HB1.out.size (Nat.le_refl _)).tight H2.out)
  have K2 := Lib.hid (KX.out.below hb)
  clear hb hv CC
  obtain ⟨sb, Av, nv, cv, rfl⟩ := HV.out.expose
  go_wp2_with ((refine wpList_store_row (o := ⟨none, _, _, _, _, _⟩) rfl 37 _ _ rfl g #[.bool sb, .slice Av nv cv] rfl rfl 37 _ K2.out (by kernel_rfl) rfl (by simp [Value.oneCell']) ?_))
  refine bodyPost_ret (results_c1 rfl _ _ _ g _ rfl (load24 (K2.out.setRow (ds := #[.bool sb, .slice Av nv cv])) rfl)) rfl ?_
  exact ⟨⟨sb, Av, nv, cv, a⟩, rfl, rfl, HV.out.rowT K2.out (by decide) _, row_below HB2.out hgw HB2.out.size _⟩
def UsP (i z : Int) (w : World) (N : Nat) (e : Ending) (w' : World) : Prop := ∃ u : Us, e = .returned u.val ∧ u.m = (i, z) ∧ NB w' w.heap.size u.b.val z N ∧ Below w.heap.size w w'
set_option maxRecDepth 100000 in
set_option maxHeartbeats 2000000 in
theorem use_any (i a : Int) (w : World) (h0 : -9223372036854775808 ≤ a) (h1 : a ≤ 9223372036854775807) : Calls Try.prog 42 #[.int .i64 i, .int .i64 a] w (UsP i a w 2) := by
  obtain ⟨g, hg⟩ : ∃ g, g = w.heap.size := ⟨_, rfl⟩
  obtain ⟨W1, hW1⟩ : ∃ W1, W1 = w.alloc (.cells #[.int .i64 0, .bool false, .slice none 0 0] 62) := ⟨_, rfl⟩
  have HB1 := Lib.hid (show Below w.heap.size w W1 by rw [hW1]; exact (Below.refl _ _).alloc (Nat.le_refl _) _)
  have KX := Lib.hid (show Blk W1 g 62 #[.int .i64 0, .bool false, .slice none 0 0] by rw [hW1]; exact Blk.new_ hg rfl)
  have CC := Lib.hid (lbig_any a W1 h0 h1)
  have hgw : w.heap.size ≤ g := by omega
  clear h0 h1
  go_enter Try.func42, Try.ntmps42
  go_wp2_with fail
  rw [← hg, ← hW1]
  clear hg hW1
  refine CC.out.mono ?_
  rintro e w2 ⟨⟨sb, Av, nv, cv, z⟩, rfl, rfl, hv, hb⟩
  have HB2 := Lib.hid (HB1.out.trans (hb.mono HB1.out.size))
  have HV := Lib.hid (hv.mono HB1.out.size (Nat.le_refl _))
  have K2 := Lib.hid (KX.out.below hb)
  clear hb hv CC
  unfold Bg.val
  dsimp only
  go_wp2_with ((refine wpList_store_row (o := ⟨none, _, _, _, _, _⟩) rfl 62 _ _ rfl g #[.int .i64 i, .bool sb, .slice Av nv cv] rfl rfl 62 _ K2.out (by kernel_rfl) rfl (by simp [Value.oneCell']) ?_))
  refine bodyPost_ret (results_c1 rfl _ _ _ g _ rfl (load62 (K2.out.setRow (ds := #[.int .i64 i, .bool sb, .slice Av nv cv])) rfl)) rfl ?_
  exact ⟨⟨i, ⟨sb, Av, nv, cv, z⟩⟩, rfl, rfl, HV.out.rowT K2.out (by decide) _, row_below HB2.out hgw HB2.out.size _⟩
def IqP (m : QI) (w : World) (N : Nat) (e : Ending) (w' : World) : Prop := ∃ (q : Iq), e = .returned q.val ∧ q.m = m ∧ q.ok w' N ∧ Below w.heap.size w w'
set_option maxRecDepth 100000 in
set_option maxHeartbeats 2000000 in
theorem inequality_any (a b : Int) (w : World) (ha0 : -9223372036854775808 ≤ a) (ha1 : a ≤ 9223372036854775807) (hb0 : -9223372036854775808 ≤ b) (hb1 : b ≤ 9223372036854775807) : Calls Try.prog 41 #[.int .i64 a, .int .i64 b] w (IqP ([a], b) w 2) := by
  obtain ⟨g, hg⟩ : ∃ g, g = w.heap.size := ⟨_, rfl⟩
  obtain ⟨W1, hW1⟩ : ∃ W1, W1 = w.alloc (.cells #[.slice none 0 0, .bool false, .slice none 0 0] 44) := ⟨_, rfl⟩
  have HB1 := Lib.hid (show Below w.heap.size w W1 by rw [hW1]; exact (Below.refl _ _).alloc (Nat.le_refl _) _)
  have KX := Lib.hid (show Blk W1 g 44 #[.slice none 0 0, .bool false, .slice none 0 0] by rw [hW1]; exact Blk.new_ hg rfl)
  have CC := Lib.hid (lbig_any a W1 ha0 ha1)
  have hgw : w.heap.size ≤ g := by omega
  go_enter Try.func41, Try.ntmps41
  go_wp2_with fail
  rw [← hg, ← hW1]
  clear hg hW1
  refine CC.out.mono ?_
  rintro e w2 ⟨⟨sa, Aa, na, ca, z⟩, rfl, rfl, hv, hb⟩
  have HB2 := Lib.hid (HB1.out.trans (hb.mono HB1.out.size))
  have HV := Lib.hid (hv.mono HB1.out.size (Nat.le_refl _))
  have K2 := Lib.hid (KX.out.below hb)
  clear hb hv CC
  unfold Bg.val
  dsimp only at *
  obtain ⟨W3, hW3⟩ : ∃ W3, W3 = w2.alloc (.cells #[.bool sa, .slice Aa na ca] 37) := ⟨_, rfl⟩
  obtain ⟨ga, hga⟩ : ∃ ga, ga = w2.heap.size := ⟨_, rfl⟩
  have hb3 : Below w2.heap.size w2 W3 := by rw [hW3]; exact (Below.refl _ _).alloc (Nat.le_refl _) _
  have HB3 := Lib.hid (HB2.out.trans (hb3.mono HB2.out.size))
  have K3 := Lib.hid (K2.out.below hb3)
  have HR3 := Lib.hid (show Rw W3 w.heap.size ga [⟨sa, Aa, na, ca, z⟩] 2 from ⟨by rw [hga]; exact HB2.out.size, by rw [hW3]; exact Blk.new_ hga rfl, fun b hb => by rw [List.mem_singleton.1 hb]; exact HV.out.below hb3⟩)
  have CC := Lib.hid (lbig_any b W3 hb0 hb1)
  clear hb3
  go_wp2_with fail
  rw [← hga, ← hW3]
  clear hga hW3
  refine CC.out.mono ?_
  rintro e w4 ⟨⟨sb, Ab, nb, cb, y⟩, rfl, rfl, hv, hb⟩
  have HB4 := Lib.hid (HB3.out.trans (hb.mono HB3.out.size))
  have HV4 := Lib.hid (hv.mono HB3.out.size (Nat.le_refl _))
  have K4 := Lib.hid (K3.out.below hb)
  have HR4 := Lib.hid (HR3.out.below hb)
  clear hb hv CC
  unfold Bg.val
  dsimp only
  go_wp2_with ((refine wpList_store_row (o := ⟨none, _, _, _, _, _⟩) rfl 44 _ _ rfl g #[.slice (some ⟨ga, 0, none⟩) 1 1, .bool sb, .slice Ab nb cb] rfl rfl 44 _ K4.out (by kernel_rfl) rfl (by simp [Value.oneCell']) ?_))
  refine bodyPost_ret (results_c1 rfl _ _ _ g _ rfl (load44 (K4.out.setRow (ds := #[.slice (some ⟨ga, 0, none⟩) 1 1, .bool sb, .slice Ab nb cb])) rfl)) rfl ?_
  exact ⟨⟨some ⟨ga, 0, none⟩, 1, 1, [⟨sa, Aa, na, ca, z⟩], ⟨sb, Ab, nb, cb, y⟩⟩, rfl, rfl, ⟨(HR4.out.rowT K4.out (by decide) (by decide) _).bigs (by rw [List.length_singleton]; decide), (HV4.out.rowT K4.out (by decide) _).bg⟩, row_below HB4.out hgw HB4.out.size _⟩
end Go.Proofs.Ythfolccofjaknaa
