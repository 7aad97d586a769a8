/- The next statement itself. -/
import Derived.Test.YtgcjbpiofcggcaaMut
import Derived.Test.YtgcjbpiofcggcaaEnd
namespace Go.Proofs.Ytgcjbpiofcggcaa
open Go.ChangeShapes Go.WideShapes Go.ChangeAt Go.RowKit Go.ChangeMaps

theorem res21 (w : World) (g : Nat) (cs : Array Value) (tm : Array Value) (bv : Value) (hg : Blk w g 56 cs) (hs : (Try.prog.info? 56).map (·.size) = some cs.size) (h2 : tm.getD 2 undef = .pointer (some ⟨g, 0, none⟩)) (h3 : tm.getD 3 undef = bv) :
    (results Try.f21 tm).run Try.prog w = .ok (.tuple #[.agg cs, bv]) w := by
  have hl := run_loadVar_row (P := Try.prog) w g 56 56 cs (0, 0) _ hg Try.underlying56 rfl hs
  rw [Array.getD_eq_getD_getElem?] at h2 h3
  simp [results, Try.results21, h2, h3, hl, asAddr]
theorem wpList_store_row {P : Program} {ops : Array Oper} {rest : List Oper} {op : Oper} {a : Act} {Q : Exit → Act → World → Prop} (hgd : op.guard = none) (ty : TypeId) (x y : Operand) (ho : op.op = .store ty x y)
    (w : World) (g : Nat) (old cells : Array Value) (hx : a.eval x = .pointer (some ⟨g, 0, none⟩)) (hy : a.eval y = .agg cells) (hg : Blk w g ty old) (hi : (P.info? ty).map (·.size) = some cells.size) (hold : old.size = cells.size) (h1 : cells.all (·.oneCell') = true)
    (h : wpList P ops Q rest (a.put op.dst undef) (w.setRow g cells)) : wpList P ops Q (op :: rest) a w :=
  wpList_plain hgd fun _ hK => wp_store_row ty x y ho g cells hx hy ty old hg hi hold h1 (hK _ _ h)
theorem setRow_below {w W : World} {g : Nat} {cs : Array Value} {B : Nat} (h : Below B w W) (hg : B ≤ g) : Below B w (W.setRow g cs) :=
  h.trans ⟨rfl, rfl, rfl, by simp [World.setRow], fun k hk => setRow_other W g k cs (by omega)⟩
def STM (w : World) (K : List Int) (cur ex : Nat) (e : Ending) (w' : World) : Prop :=
  (((nx K cur ex).2 = true ∧ e = .returned (.tuple #[.agg #[.int .i64 (K.getD (nx K cur ex).1 0), .string ⟨#[]⟩, .slice none 0 0, .slice none 0 0, .slice none 0 0, .slice none 0 0, .slice none 0 0, .slice none 0 0, .slice none 0 0, .slice none 0 0, .int .i64 0, .string ⟨#[]⟩, .string ⟨#[]⟩, .int .i64 0, .int .i64 0, .int .i64 0, .string ⟨#[]⟩, .slice none 0 0, .slice none 0 0, .slice none 0 0, .int .i64 ((nx K cur ex).1 : Nat), .string ⟨#[]⟩], .bool true])) ∨ ((nx K cur ex).2 = false ∧ e = .returned (.tuple #[.agg #[.int .i64 0, .string ⟨#[]⟩, .slice none 0 0, .slice none 0 0, .slice none 0 0, .slice none 0 0, .slice none 0 0, .slice none 0 0, .slice none 0 0, .slice none 0 0, .int .i64 0, .string ⟨#[]⟩, .string ⟨#[]⟩, .int .i64 0, .int .i64 0, .int .i64 0, .string ⟨#[]⟩, .slice none 0 0, .slice none 0 0, .slice none 0 0, .int .i64 0, .string ⟨#[]⟩], .bool false]))) ∧ Below w.heap.size w w'
set_option maxRecDepth 100000 in
set_option maxHeartbeats 4000000 in
theorem Statement_any (w : World) (B M p num : Nat) (K : List Int) (cur ex : Nat) (h : Ses w B M p num K cur ex) :
    Calls Try.prog 21 #[.pointer (some ⟨p, 0, none⟩)] w (STM w K cur ex) := by
  have HS := Lib.hid h
  clear h
  have CN := Next_any (w.alloc (.cells #[.int .i64 0, .string ⟨#[]⟩, .slice none 0 0, .slice none 0 0, .slice none 0 0, .slice none 0 0, .slice none 0 0, .slice none 0 0, .slice none 0 0, .slice none 0 0, .int .i64 0, .string ⟨#[]⟩, .string ⟨#[]⟩, .int .i64 0, .int .i64 0, .int .i64 0, .string ⟨#[]⟩, .slice none 0 0, .slice none 0 0, .slice none 0 0, .int .i64 0, .string ⟨#[]⟩] 56)) B M p num K cur ex (HS.out.below ((Below.refl _ w).alloc (Nat.le_refl _) _))
  rcases hN : nx K cur ex with ⟨i, _ | _⟩
  · have HX : Hid ((nx K cur ex).2 = false) := Lib.hid (by rw [hN])
    rw [hN] at CN
    simp only at CN
    have CN := Lib.hid CN
    clear hN
    go_enter Try.func21, Try.ntmps21
    go_wp2_with fail
    refine CN.out.mono ?_
    rintro e w2 ⟨rfl, hb2⟩
    have hblk : Hid (Blk w2 w.heap.size 56 #[.int .i64 0, .string ⟨#[]⟩, .slice none 0 0, .slice none 0 0, .slice none 0 0, .slice none 0 0, .slice none 0 0, .slice none 0 0, .slice none 0 0, .slice none 0 0, .int .i64 0, .string ⟨#[]⟩, .string ⟨#[]⟩, .int .i64 0, .int .i64 0, .int .i64 0, .string ⟨#[]⟩, .slice none 0 0, .slice none 0 0, .slice none 0 0, .int .i64 0, .string ⟨#[]⟩]) := Lib.hid ((Blk.new w 56 #[.int .i64 0, .string ⟨#[]⟩, .slice none 0 0, .slice none 0 0, .slice none 0 0, .slice none 0 0, .slice none 0 0, .slice none 0 0, .slice none 0 0, .slice none 0 0, .int .i64 0, .string ⟨#[]⟩, .string ⟨#[]⟩, .int .i64 0, .int .i64 0, .int .i64 0, .string ⟨#[]⟩, .slice none 0 0, .slice none 0 0, .slice none 0 0, .int .i64 0, .string ⟨#[]⟩]).below hb2)
    have HB := Lib.hid (((Below.refl _ w).alloc (Nat.le_refl _) (.cells #[.int .i64 0, .string ⟨#[]⟩, .slice none 0 0, .slice none 0 0, .slice none 0 0, .slice none 0 0, .slice none 0 0, .slice none 0 0, .slice none 0 0, .slice none 0 0, .int .i64 0, .string ⟨#[]⟩, .string ⟨#[]⟩, .int .i64 0, .int .i64 0, .int .i64 0, .string ⟨#[]⟩, .slice none 0 0, .slice none 0 0, .slice none 0 0, .int .i64 0, .string ⟨#[]⟩] 56)).trans (hb2.mono (by simp)))
    clear hb2
    go_wp2_with (refine wpList_store_row (op := ⟨none, _, _, _, _, _⟩) rfl 56 _ _ rfl w2 w.heap.size #[.int .i64 0, .string ⟨#[]⟩, .slice none 0 0, .slice none 0 0, .slice none 0 0, .slice none 0 0, .slice none 0 0, .slice none 0 0, .slice none 0 0, .slice none 0 0, .int .i64 0, .string ⟨#[]⟩, .string ⟨#[]⟩, .int .i64 0, .int .i64 0, .int .i64 0, .string ⟨#[]⟩, .slice none 0 0, .slice none 0 0, .slice none 0 0, .int .i64 0, .string ⟨#[]⟩] #[.int .i64 0, .string ⟨#[]⟩, .slice none 0 0, .slice none 0 0, .slice none 0 0, .slice none 0 0, .slice none 0 0, .slice none 0 0, .slice none 0 0, .slice none 0 0, .int .i64 0, .string ⟨#[]⟩, .string ⟨#[]⟩, .int .i64 0, .int .i64 0, .int .i64 0, .string ⟨#[]⟩, .slice none 0 0, .slice none 0 0, .slice none 0 0, .int .i64 ((0 : Nat) : Int), .string ⟨#[]⟩] rfl rfl hblk.out size56 rfl (stv_all 0 0) ?_)
    exact bodyPost_ret (res21 _ w.heap.size #[.int .i64 0, .string ⟨#[]⟩, .slice none 0 0, .slice none 0 0, .slice none 0 0, .slice none 0 0, .slice none 0 0, .slice none 0 0, .slice none 0 0, .slice none 0 0, .int .i64 0, .string ⟨#[]⟩, .string ⟨#[]⟩, .int .i64 0, .int .i64 0, .int .i64 0, .string ⟨#[]⟩, .slice none 0 0, .slice none 0 0, .slice none 0 0, .int .i64 0, .string ⟨#[]⟩] _ _ (setRow_heap _ _ _ _ _ _ hblk.out) size56 rfl rfl) rfl ⟨.inr ⟨HX.out, rfl⟩, setRow_below HB.out (Nat.le_refl _)⟩
  · have hi := (nx_lt hN).1
    have HX : Hid ((nx K cur ex).2 = true ∧ (nx K cur ex).1 = i) := Lib.hid (by rw [hN]; exact ⟨rfl, rfl⟩)
    rw [hN] at CN
    simp only at CN
    have CN := Lib.hid CN
    clear hN
    go_enter Try.func21, Try.ntmps21
    go_wp2_with fail
    refine CN.out.mono ?_
    rintro e w2 ⟨rfl, hb2⟩
    have hblk : Hid (Blk w2 w.heap.size 56 #[.int .i64 0, .string ⟨#[]⟩, .slice none 0 0, .slice none 0 0, .slice none 0 0, .slice none 0 0, .slice none 0 0, .slice none 0 0, .slice none 0 0, .slice none 0 0, .int .i64 0, .string ⟨#[]⟩, .string ⟨#[]⟩, .int .i64 0, .int .i64 0, .int .i64 0, .string ⟨#[]⟩, .slice none 0 0, .slice none 0 0, .slice none 0 0, .int .i64 0, .string ⟨#[]⟩]) := Lib.hid ((Blk.new w 56 #[.int .i64 0, .string ⟨#[]⟩, .slice none 0 0, .slice none 0 0, .slice none 0 0, .slice none 0 0, .slice none 0 0, .slice none 0 0, .slice none 0 0, .slice none 0 0, .int .i64 0, .string ⟨#[]⟩, .string ⟨#[]⟩, .int .i64 0, .int .i64 0, .int .i64 0, .string ⟨#[]⟩, .slice none 0 0, .slice none 0 0, .slice none 0 0, .int .i64 0, .string ⟨#[]⟩]).below hb2)
    have HB := Lib.hid (((Below.refl _ w).alloc (Nat.le_refl _) (.cells #[.int .i64 0, .string ⟨#[]⟩, .slice none 0 0, .slice none 0 0, .slice none 0 0, .slice none 0 0, .slice none 0 0, .slice none 0 0, .slice none 0 0, .slice none 0 0, .int .i64 0, .string ⟨#[]⟩, .string ⟨#[]⟩, .int .i64 0, .int .i64 0, .int .i64 0, .string ⟨#[]⟩, .slice none 0 0, .slice none 0 0, .slice none 0 0, .int .i64 0, .string ⟨#[]⟩] 56)).trans (hb2.mono (by simp)))
    have H2 := HS.out.below HB.out
    obtain ⟨A, a, D, d, hA, _, _, c1, _⟩ := H2.parts
    obtain ⟨b, off, rfl, hb, hcc⟩ := hA.2 (by omega)
    have hrange : Hid (w2.rangeAt b (off + i * 22) [.int .i64 (K.getD i 0), .string ⟨#[]⟩, .slice none 0 0, .slice none 0 0, .slice none 0 0, .slice none 0 0, .slice none 0 0, .slice none 0 0, .slice none 0 0, .slice none 0 0, .int .i64 0, .string ⟨#[]⟩, .string ⟨#[]⟩, .int .i64 0, .int .i64 0, .int .i64 0, .string ⟨#[]⟩, .slice none 0 0, .slice none 0 0, .slice none 0 0, .int .i64 (i : Int), .string ⟨#[]⟩]) := Lib.hid (fun j v hj => by
      have hjl : j < 22 := (List.getElem?_eq_some_iff.1 hj).1
      rw [show off + i * 22 + j = off + (i * 22 + j) by omega]
      exact hcc _ _ ((stC_get K K.length i j hi hjl).trans hj))
    have hi2 : (i : Int) < K.length := by omega
    clear hcc hA H2 hb2 hb
    obtain ⟨kk, hkk⟩ : ∃ kk, K.getD i 0 = kk := ⟨_, rfl⟩
    rw [hkk] at hrange
    have hkk := Lib.hid hkk
    go_wp2_with (first | (refine wpList_load_mid (op := ⟨some 18, _, _, _, _, _⟩) rfl 56 _ rfl b (off + i * 22) rfl [.int .i64 kk, .string ⟨#[]⟩, .slice none 0 0, .slice none 0 0, .slice none 0 0, .slice none 0 0, .slice none 0 0, .slice none 0 0, .slice none 0 0, .slice none 0 0, .int .i64 0, .string ⟨#[]⟩, .string ⟨#[]⟩, .int .i64 0, .int .i64 0, .int .i64 0, .string ⟨#[]⟩, .slice none 0 0, .slice none 0 0, .slice none 0 0, .int .i64 (i : Int), .string ⟨#[]⟩] _ hrange.out Try.underlying56 rfl size56 ?_) | (refine wpList_store_row (op := ⟨none, _, _, _, _, _⟩) rfl 56 _ _ rfl w2 w.heap.size #[.int .i64 0, .string ⟨#[]⟩, .slice none 0 0, .slice none 0 0, .slice none 0 0, .slice none 0 0, .slice none 0 0, .slice none 0 0, .slice none 0 0, .slice none 0 0, .int .i64 0, .string ⟨#[]⟩, .string ⟨#[]⟩, .int .i64 0, .int .i64 0, .int .i64 0, .string ⟨#[]⟩, .slice none 0 0, .slice none 0 0, .slice none 0 0, .int .i64 0, .string ⟨#[]⟩] #[.int .i64 kk, .string ⟨#[]⟩, .slice none 0 0, .slice none 0 0, .slice none 0 0, .slice none 0 0, .slice none 0 0, .slice none 0 0, .slice none 0 0, .slice none 0 0, .int .i64 0, .string ⟨#[]⟩, .string ⟨#[]⟩, .int .i64 0, .int .i64 0, .int .i64 0, .string ⟨#[]⟩, .slice none 0 0, .slice none 0 0, .slice none 0 0, .int .i64 (i : Int), .string ⟨#[]⟩] rfl rfl hblk.out size56 rfl (stv_all kk i) ?_))
    exact bodyPost_ret (res21 _ w.heap.size #[.int .i64 kk, .string ⟨#[]⟩, .slice none 0 0, .slice none 0 0, .slice none 0 0, .slice none 0 0, .slice none 0 0, .slice none 0 0, .slice none 0 0, .slice none 0 0, .int .i64 0, .string ⟨#[]⟩, .string ⟨#[]⟩, .int .i64 0, .int .i64 0, .int .i64 0, .string ⟨#[]⟩, .slice none 0 0, .slice none 0 0, .slice none 0 0, .int .i64 (i : Int), .string ⟨#[]⟩] _ _ (setRow_heap _ _ _ _ _ _ hblk.out) size56 rfl rfl) rfl ⟨.inl ⟨HX.out.1, by rw [HX.out.2, hkk.out]; rfl⟩, setRow_below HB.out (Nat.le_refl _)⟩
end Go.Proofs.Ytgcjbpiofcggcaa
