/- Blocks of digits. -/
import Derived.Test.YtndkcimdbidgaaaDoorApf
import Derived.Test.YtndkcimdbidgaaaDoorChi
import Derived.Test.YtndkcimdbidgaaaDoorBmt
import Derived.Lib.SmallJoins
import Derived.BigRegion
namespace Go.Proofs.YtndkcimdbidgaaaDoor
open Go.ChangeShapes Go.WideShapes Go.ChangeAt Go.RowKit Go.ChangeMaps

theorem grown_set (w : World) (g i : Nat) (u : Value) : w.grownBy (w.setCell ⟨g, i, none⟩ u) (some g) := ⟨rfl, rfl, rfl, by simp [World.setCell], fun k _ hk => Below.heap_setCell w _ u k (fun e => hk (by rw [e]))⟩
theorem grown_row (w : World) (g : Nat) (cs : Array Value) : w.grownBy (w.setRow g cs) (some g) := ⟨rfl, rfl, rfl, by simp, fun k _ hk => setRow_other w g k _ (fun e => hk (by rw [e]))⟩
theorem Blk.setRow {w : World} {g : Nat} {t : TypeId} {cs ds : Array Value} (h : Blk w g t cs) : Blk (w.setRow g ds) g t ds := setRow_heap w g cs ds t _ h
theorem results_c1 {fn : Func} {p : Tmp} {ty : TypeId} (h : fn.results = #[.cell p ty]) (tmps : Array Value) (P : Program) (w : World) (g : Nat) (X : Value)
    (hp : tmps.getD p undef = .pointer (some ⟨g, 0, none⟩)) (h1 : (loadVar ty ⟨g, 0, none⟩).run P w = .ok X w) : (results fn tmps).run P w = .ok X w := by
  have hp' : tmps[p]?.getD undef = .pointer (some ⟨g, 0, none⟩) := by simpa using hp
  simp [results, h, hp', asAddr, h1]
theorem load24 {w : World} {g : Nat} {cs : Array Value} (h : Blk w g 24 cs) (hs : cs.size = 2) : (loadVar 24 ⟨g, 0, none⟩).run Tryd.prog w = .ok (.agg cs) w :=
  run_loadVar_row w g 24 24 cs (0, 0) _ h Tryd.underlying24 rfl (by rw [hs]; kernel_rfl)
theorem store_step {W : World} {g : Nat} {T : TypeId} {cs : Array Value} (h : Blk W g T cs) (j : Nat) (v : Value) : Blk (W.setCell ⟨g, j, none⟩ v) g T (cs.setIfInBounds j v) ∧ (∀ g' T' cs', g' ≠ g → Blk W g' T' cs' → Blk (W.setCell ⟨g, j, none⟩ v) g' T' cs') ∧ (∀ B w0, Below B w0 W → B ≤ g → Below B w0 (W.setCell ⟨g, j, none⟩ v)) := by
  have gs := grown_set W g j v
  exact ⟨Joins.block_setCell h _, fun g' T' cs' hne hb => (gs.block _ hb.lt (by simp; omega)).trans hb, fun B w0 hb hg => hb.grown gs (Nat.le_trans hg (Nat.le_of_lt h.lt)) (fun j hj => by injection hj with hj; omega)⟩
/-- Digits of 32 bits as cells, and numbers as cells. -/
def dc (D : List Nat) : Array Value := (D.map fun (d : Nat) => Value.int .u32 (d : Int)).toArray
def hc (D : List Nat) : Array Value := (D.map fun (d : Nat) => Value.int .i64 (d : Int)).toArray
theorem dc_get {D : List Nat} {i d : Nat} (h : D[i]? = some d) : (dc D)[i]? = some (.int .u32 (d : Int)) := by simp [dc, h]
theorem hc_get {D : List Nat} {i d : Nat} (h : D[i]? = some d) : (hc D)[i]? = some (.int .i64 (d : Int)) := by simp [hc, h]
theorem dc_set (D : List Nat) (i d : Nat) : (dc D).setIfInBounds i (.int .u32 (d : Int)) = dc (D.set i d) := by simp [dc, List.map_set]
theorem hc_set (D : List Nat) (i d : Nat) : (hc D).setIfInBounds i (.int .i64 (d : Int)) = hc (D.set i d) := by simp [hc, List.map_set]
theorem make32 (n : Nat) (hn : n ≤ 1000000) (w : World) : (Instr.makeSlice 22 (.int .i64 (n : Int)) (.int .i64 (n : Int))).run Tryd.prog w = .ok (.slice (some ⟨w.heap.size, 0, none⟩) n n) (w.alloc (.cells (dc (List.replicate n 0)) 47)) := by
  obtain ⟨i, hi, hz, hs, hb⟩ := info_parts (show (Tryd.prog.info? 47).map (fun i => (i.zero, i.size, i.bytes)) = some (some (.int .u32 0), 1, 4) by kernel_rfl)
  have := run_make (P := Tryd.prog) w 22 47 i _ Tryd.underlying22 hi hz .i64 .i64 (n : Int) (n : Int) (by omega) (Int.le_refl _) (by rw [hb]; omega) (by omega)
  rw [hs] at this
  rw [Int.toNat_natCast] at this
  have e : madeCells (Value.int .u32 0).cells (n * 1) = dc (List.replicate n 0) := by
    apply Array.ext
    · simp [dc, madeCells]
    · intro j h1 h2
      simp [dc, madeCells, Value.cells, Nat.mod_one]
  rw [this, e]
/-- A slice of digits that can be read. -/
def DG (w : World) (A : Option Addr) (n : Nat) (D : List Nat) : Prop := D.length = n ∧ dok 4294967296 D ∧ (0 < n → ∃ b off, A = some ⟨b, off, none⟩ ∧ b < w.heap.size ∧ ∀ (j d : Nat), D[j]? = some d → w.cell? ⟨b, off + j, none⟩ = some (.int .u32 (d : Int)))
/-- A slice of digits in a block of its own, made at or behind a given place. -/
def Own (w : World) (base : Nat) (A : Option Addr) (n : Nat) (D : List Nat) : Prop := D.length = n ∧ dok 4294967296 D ∧ (0 < n → ∃ g off cs, A = some ⟨g, off, none⟩ ∧ base ≤ g ∧ Blk w g 47 cs ∧ ∀ (j d : Nat), D[j]? = some d → cs[off + j]? = some (.int .u32 (d : Int)))
theorem DG.below {w w' : World} {A : Option Addr} {n : Nat} {D : List Nat} (h : DG w A n D) (hb : Below w.heap.size w w') : DG w' A n D :=
  ⟨h.1, h.2.1, fun hn => let ⟨b, off, e, hl, hc⟩ := h.2.2 hn; ⟨b, off, e, Nat.lt_of_lt_of_le hl hb.size, fun j d hd => keepcell hb (hc j d hd)⟩⟩
theorem Own.below {w w' : World} {base : Nat} {A : Option Addr} {n : Nat} {D : List Nat} (h : Own w base A n D) (hb : Below w.heap.size w w') : Own w' base A n D :=
  ⟨h.1, h.2.1, fun hn => let ⟨g, off, cs, e, hg, hk, hc⟩ := h.2.2 hn; ⟨g, off, cs, e, hg, hk.below hb, hc⟩⟩
theorem Own.dg {w : World} {base : Nat} {A : Option Addr} {n : Nat} {D : List Nat} (h : Own w base A n D) : DG w A n D :=
  ⟨h.1, h.2.1, fun hn => let ⟨g, off, _cs, e, _, hk, hc⟩ := h.2.2 hn; ⟨g, off, e, hk.lt, fun j d hd => (hk.cell _).trans (hc j d hd)⟩⟩
theorem Own.mono {w : World} {base b2 : Nat} {A : Option Addr} {n : Nat} {D : List Nat} (h : Own w base A n D) (hb : b2 ≤ base) : Own w b2 A n D :=
  ⟨h.1, h.2.1, fun hn => let ⟨g, off, cs, e, hg, hk, hc⟩ := h.2.2 hn; ⟨g, off, cs, e, Nat.le_trans hb hg, hk, hc⟩⟩
theorem Own.of_blk {w : World} {base g : Nat} {D : List Nat} (h : Blk w g 47 (dc D)) (hg : base ≤ g) (hd : dok 4294967296 D) : Own w base (some ⟨g, 0, none⟩) D.length D :=
  ⟨rfl, hd, fun _ => ⟨g, 0, _, rfl, hg, h, fun j d hj => by rw [Nat.zero_add]; exact dc_get hj⟩⟩
theorem Own.take {w : World} {base : Nat} {A : Option Addr} {n k : Nat} {D : List Nat} (h : Own w base A n D) (hk : k ≤ n) : Own w base A k (D.take k) :=
  ⟨by rw [List.length_take, h.1]; omega, dok_take h.2.1 k, fun hn => let ⟨g, off, cs, e, hg, hb, hc⟩ := h.2.2 (by omega); ⟨g, off, cs, e, hg, hb, fun j d hj => hc j d (by
    rw [List.getElem?_take] at hj
    split at hj
    · exact hj
    · cases hj)⟩⟩
theorem DG.take {w : World} {A : Option Addr} {n k : Nat} {D : List Nat} (h : DG w A n D) (hk : k ≤ n) : DG w A k (D.take k) :=
  ⟨by rw [List.length_take, h.1]; omega, dok_take h.2.1 k, fun hn => let ⟨b, off, e, hl, hc⟩ := h.2.2 (by omega); ⟨b, off, e, hl, fun j d hj => hc j d (by
    rw [List.getElem?_take] at hj
    split at hj
    · exact hj
    · cases hj)⟩⟩
theorem DG.empty (w : World) (A : Option Addr) : DG w A 0 [] := ⟨rfl, dok_nil _, fun h => absurd h (Nat.lt_irrefl 0)⟩
theorem Own.empty (w : World) (base : Nat) (A : Option Addr) : Own w base A 0 [] := ⟨rfl, dok_nil _, fun h => absurd h (Nat.lt_irrefl 0)⟩
/-- The cells of a slice of digits, as long as nothing that lay there has been touched. -/
theorem DG.at {w : World} {A : Option Addr} {n : Nat} {D : List Nat} (h : DG w A n D) (hn : 0 < n) : ∃ b off, A = some ⟨b, off, none⟩ ∧ b < w.heap.size ∧ ∀ (W : World), Below w.heap.size w W → ∀ (j d : Nat), D[j]? = some d → W.cell? ⟨b, off + j, none⟩ = some (.int .u32 (d : Int)) := by
  obtain ⟨b, off, e, hl, hc⟩ := h.2.2 hn
  exact ⟨b, off, e, hl, fun W hW j d hd => keepcell hW (hc j d hd)⟩
end Go.Proofs.YtndkcimdbidgaaaDoor
