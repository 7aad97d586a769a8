/- Copies; Append and Check. -/
import Derived.Test.YthhpilkhcomhbaaDoorCrc
import Derived.Test.YthhpilkhcomhbaaDoorRwr
namespace Go.Proofs.YthhpilkhcomhbaaDoor
open Go.ChangeShapes Go.WideShapes Go.ChangeAt Go.RowKit Go.ChangeMaps

theorem Sum_any (A : Option Addr) (n c : Nat) (l : List UInt8) (w : World) (hb : BytesAt w A n l) (hn : n ≤ 9223372036854775807) (he : Env w) :
    Calls Tryd.prog 38 #[.slice A n c] w fun e w' => e = .returned (.int .u64 ((crc 0 l : Nat) : Int)) ∧ w = w' := by
  go_enter Tryd.func38, Tryd.ntmps38
  go_wp2_with (go_at_call 48; refine (Update_any 0 _ _ _ l _ (by omega) hb hn he).mono ?_; rintro e w' ⟨rfl, rfl⟩)
  go_ret
  exact ⟨rfl, rfl⟩
/-- A new row of bytes. -/
def Gives (w : World) (l : List UInt8) (e : Ending) (w' : World) : Prop := ∃ v, e = .returned v ∧ w'.ownsRow w.heap.size 5 1 v l.length (bc l) ∧ Below w.heap.size w w'
theorem src_news {W : World} {g n c : Nat} {t : TypeId} (l : List UInt8) (hl : l.length = n) (hg : W.heap[g]? = some (.cells (bc l).toArray t (0, 0))) : Src Tryd.prog 1 36 (.slice (some ⟨g, 0, none⟩) n c) n (bc l) W := by
  refine Src.ofSlice _ Tryd.underlying36 _ _ _ _ (by rw [bc_len, hl, Nat.mul_one]) (fun j u hu => ?_) (bc_one l)
  rw [add_plain, Nat.zero_add, cell_of_row W g j _ t (0, 0) hg]
  simpa using hu
theorem byte_new (W : World) (x : UInt8) (n : Int) (hn : n = (x.toNat : Int)) : (W.alloc (.cells #[.int .u8 n] 5)).heap[W.heap.size]? = some (.cells (bc [x]).toArray 5 (0, 0)) := by
  rw [hn]; exact heap_alloc_new W _
theorem cp_any (A : Option Addr) (n c : Nat) (l : List UInt8) (w : World) (hb : BytesAt w A n l) (hn : n ≤ 100000) :
    Calls Tryd.prog 21 #[.slice A n c] w (Gives w l) := by
  obtain ⟨i0, hi, hz0, hz1, hz2⟩ := info_parts Tryd.info5
  have B1 : Below w.heap.size w (w.alloc (.cells #[] 5)) := (Below.refl _ _).alloc (Nat.le_refl _) _
  have hb2 := hb.below B1
  have O := own_empty w
  have G := Grows.refl (E := 5) (B := w.heap.size) (l := []) O B1.size
  go_enter Tryd.func21, Tryd.ntmps21
  go_wp2_with (at_builtin; refine wpList_app rfl (.tmp 3) (.tmp 4) 36 36 rfl w.heap.size _ _ 5 i0 Tryd.underlying36 hi hz0 hz1 hz2 _ [] rfl G _ n l rfl (src_at hb2) (by simp; omega) ?_; intro v2 w2 G2 z2 k2)
  go_ret
  exact ⟨_, rfl, G2.1, B1.trans (G2.below_of O B1.size)⟩
end Go.Proofs.YthhpilkhcomhbaaDoor
