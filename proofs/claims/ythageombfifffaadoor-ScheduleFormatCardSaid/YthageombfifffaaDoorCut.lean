/- Reading a line: words and numbers. -/
import Derived.Test.YthageombfifffaaDoorPmt
import Derived.Test.YthageombfifffaaDoorShg
import Derived.Test.YthageombfifffaaDoorEnv
namespace Go.Proofs.YthageombfifffaaDoor
open Go.ChangeShapes Go.WideShapes Go.ChangeAt Go.RowKit Go.ChangeMaps

/-- What the library reads, its errors among it. -/
structure EnvQ (w : World) : Prop where
  env : Env w
  max : ∃ m, w.cell? ⟨0, 0, none⟩ = some (.int .i64 m)
  syn : ∃ tp p, w.cell? ⟨1, 0, none⟩ = some (.iface tp p)
  rng : ∃ tp p, w.cell? ⟨2, 0, none⟩ = some (.iface tp p)
theorem EnvQ.below {w w' : World} (h : EnvQ w) (hb : Below w.heap.size w w') : EnvQ w' :=
  ⟨h.env.below hb, h.max.imp fun _ h => keepcell hb h, h.syn.imp fun _ h => h.imp fun _ h => keepcell hb h, h.rng.imp fun _ h => h.imp fun _ h => keepcell hb h⟩
theorem star : "*" ++ "errors.errorString" = "*errors.errorString" := by decide
theorem row112 (u : TypeId) (h : Tryd.prog.typeName? 3 u = some "*errors.errorString") : u = 112 :=
  typeName_ptr_named (nm := "errors.errorString") (by rw [star]; kernel_rfl) (by kernel_rfl) (by decide) u (by rw [star]; exact h)
theorem envQ_of {W : World} (hL : laidMetH Tryd.prog Rows.scheduleFormatRow.laid W) (hsh : W.ShapedOpen Tryd.prog) : EnvQ W := by
  refine ⟨env_of7 hL, ?_, ?_, ?_⟩
  · exact cell_of_shapedOpen_int (zero := #[.int .i64 0]) (t := 3) hsh (of_decide_eq_true (by kernel_rfl)) (by kernel_rfl) rfl (by kernel_rfl) (by kernel_rfl) Tryd.underlying3
  · rw [MakeChecks.laidMetH_plain _ _ _ (by kernel_rfl)] at hL
    obtain ⟨a, _, hv, _, _, _⟩ := laid_sentinel hL.tail.tail.tail.tail.tail (g := 1) (ti := 60) (tp := 112) (te := 114) (ts := 9) (by kernel_rfl) (by kernel_rfl) Tryd.underlying60 row112 Tryd.underlying112 Tryd.underlying114 rfl rfl Tryd.underlying9 (by kernel_rfl) (by kernel_rfl)
    exact ⟨_, _, World.var?_cell (by kernel_rfl) hv 0⟩
  · rw [MakeChecks.laidMetH_plain _ _ _ (by kernel_rfl)] at hL
    obtain ⟨a, _, hv, _, _, _⟩ := laid_sentinel hL.tail.tail.tail.tail (g := 2) (ti := 60) (tp := 112) (te := 114) (ts := 9) (by kernel_rfl) (by kernel_rfl) Tryd.underlying60 row112 Tryd.underlying112 Tryd.underlying114 rfl rfl Tryd.underlying9 (by kernel_rfl) (by kernel_rfl)
    exact ⟨_, _, World.var?_cell (by kernel_rfl) hv 0⟩
/-- An int and an error. -/
def Atoid (v : Int) (w : World) (e : Ending) (w' : World) : Prop := ∃ x, e = .returned (.tuple #[.int .i64 v, x]) ∧ Below w.heap.size w w'
theorem Atoi_any (s : ByteArray) (w : World) (hs : s.size ≤ 100000) (hE : EnvQ w) : Calls Tryd.prog 42 #[.string s] w (Atoid (atoiV s.data.toList) w) := by
  rcases h : Lib.atoiAll s.data.toList with v | _ | _
  · have e : atoiV s.data.toList = v := by unfold atoiV; rw [h]
    rw [e]
    refine (Tryd.strconv_Atoi_ok s (by omega) v h w).mono fun e w' ⟨he, hw⟩ => ⟨_, he, ?_⟩
    rcases hw with rfl | ⟨t, rfl⟩
    · exact Below.refl _ _
    · exact Lib.bytesWorld_below _ _ _
  · obtain ⟨tp, p, hv⟩ := hE.syn
    have e : atoiV s.data.toList = 0 := by unfold atoiV; rw [h]
    rw [e]
    exact (Tryd.strconv_Atoi_syntax s (by omega) ⟨fun v e => (by rw [h] at e; cases e), fun e => (by rw [h] at e; cases e)⟩ _ w hv (.inr ⟨_, _, rfl⟩)).mono fun e w' ⟨N, he, _, _, hb⟩ => ⟨_, he, hb⟩
  · obtain ⟨tp, p, hv⟩ := hE.rng
    have e : atoiV s.data.toList = Lib.atoiSat s.data.toList := by unfold atoiV; rw [h]
    rw [e]
    exact (Tryd.strconv_Atoi_range s (by omega) h _ w hv (.inr ⟨_, _, rfl⟩)).mono fun e w' ⟨N, he, _, _, hb⟩ => ⟨_, he, hb⟩
/-- The words lie in memory. -/
structure WordsAt (w : World) (b g : Nat) (W : List ByteArray) : Prop where
  cell : w.cell? ⟨b, 0, none⟩ = some (.slice (some ⟨g, 0, none⟩) W.length W.length)
  at_ : ∀ j (h : j < W.length), w.cell? ⟨g, j, none⟩ = some (.string W[j])
  len : W.length ≤ 100000
  sz : ∀ j (h : j < W.length), W[j].size ≤ 100000
theorem WordsAt.below {w w' : World} {b g : Nat} {W : List ByteArray} (h : WordsAt w b g W) (hb : Below w.heap.size w w') : WordsAt w' b g W :=
  ⟨keepcell hb h.cell, fun j hj => keepcell hb (h.at_ j hj), h.len, h.sz⟩
def lists (W : List ByteArray) : List (List UInt8) := W.map fun x => x.data.toList
theorem numW_in (W : List ByteArray) (i : Nat) (h : i < W.length) : numW (lists W) i = atoiV W[i].data.toList := by
  unfold numW lists
  rw [List.getElem?_map, List.getElem?_eq_getElem h]; rfl
theorem numW_out (W : List ByteArray) (i : Nat) (h : ¬ i < W.length) : numW (lists W) i = 0 := by
  unfold numW lists
  rw [List.getElem?_map, List.getElem?_eq_none (by omega)]; rfl
set_option maxHeartbeats 1000000 in
theorem num_any (i b g : Nat) (W : List ByteArray) (w : World) (hW : WordsAt w b g W) (hE : EnvQ w) (hi : i ≤ 2) :
    Calls Tryd.prog 41 #[.int .i64 (i : Int), .pointer (some ⟨b, 0, none⟩)] w fun e w' => e = .returned (.int .i64 (numW (lists W) i)) ∧ Below w.heap.size w w' := by
  have c0 := hW.cell
  have hl := hW.len
  by_cases h : i < W.length
  · have H := Lib.hid (numW_in W i h)
    have c1 := hW.at_ i h
    have C := Lib.hid (Atoi_any W[i] w (hW.sz i h) hE)
    generalize W[i] = s at *
    generalize atoiV s.data.toList = v at *
    clear hW
    generalize W.length = k at *
    go_enter Tryd.func41, Tryd.ntmps41
    go_wp2_with (go_at_call 42; refine C.out.mono ?_; rintro e w1 ⟨x, rfl, hb⟩)
    go_ret
    exact ⟨ret_int H.out.symm, hb⟩
  · have H := Lib.hid (numW_out W i h)
    clear hW
    generalize W.length = k at *
    go_enter Tryd.func41, Tryd.ntmps41
    go_wp2
    go_ret
    exact ⟨ret_int H.out.symm, Below.refl _ _⟩
end Go.Proofs.YthageombfifffaaDoor
