/- Four bytes of a number. -/
import Derived.Test.YtgpofkabidginaaWsm
import Derived.Laws.BitsLemmas
namespace Go.Proofs.Ytgpofkabidginaa
open Go.ChangeShapes Go.WideShapes Go.ChangeAt Go.RowKit Go.ChangeMaps

theorem bc_nb4 (n : Nat) (hn : n < 4294967296) : (bc (nb4 n)).toArray = #[.int .u8 ((n : Int) / 16777216), .int .u8 ((n : Int) / 65536 % 256), .int .u8 ((n : Int) / 256 % 256), .int .u8 ((n : Int) % 256)] := by
  unfold nb4 bc
  simp only [List.map_cons, List.map_nil, UInt8.toNat_ofNat']
  have e0 : ((n / 16777216 % 2 ^ 8 : Nat) : Int) = (n : Int) / 16777216 := by omega
  have e1 : ((n / 65536 % 2 ^ 8 : Nat) : Int) = (n : Int) / 65536 % 256 := by omega
  have e2 : ((n / 256 % 2 ^ 8 : Nat) : Int) = (n : Int) / 256 % 256 := by omega
  have e3 : ((n % 2 ^ 8 : Nat) : Int) = (n : Int) % 256 := by omega
  rw [e0, e1, e2, e3]
theorem rd4_get (l : List UInt8) (h : 4 ≤ l.length) : (rd4 l : Int) = (l[0].toNat : Int) * 16777216 + (l[1].toNat : Int) * 65536 + (l[2].toNat : Int) * 256 + (l[3].toNat : Int) := by
  unfold rd4
  simp only [List.getD_eq_getElem?_getD, List.getElem?_eq_getElem (show 0 < l.length by omega), List.getElem?_eq_getElem (show 1 < l.length by omega), List.getElem?_eq_getElem (show 2 < l.length by omega), List.getElem?_eq_getElem (show 3 < l.length by omega), Option.getD_some]
  omega
theorem wr32 (n : Int) (h0 : 0 ≤ n) (h1 : n < 2 ^ 32) : IntKind.u32.wrap n = n := by simp only [IntKind.wrap, IntKind.bits, IntKind.signed]; simp; omega
theorem or4 (a b c d : Int) (a0 : 0 ≤ a) (a1 : a < 256) (b0 : 0 ≤ b) (b1 : b < 256) (c0 : 0 ≤ c) (c1 : c < 256) (d0 : 0 ≤ d) (d1 : d < 256) :
    bits .or .u32 (bits .or .u32 (bits .or .u32 (a % 4294967296 * 16777216 % 4294967296) (b % 4294967296 * 65536 % 4294967296)) (c % 4294967296 * 256 % 4294967296)) (d % 4294967296) = a * 16777216 + b * 65536 + c * 256 + d := by
  rw [show a % 4294967296 * 16777216 % 4294967296 = a * 16777216 by omega, show b % 4294967296 * 65536 % 4294967296 = b * 65536 by omega, show c % 4294967296 * 256 % 4294967296 = c * 256 by omega, show d % 4294967296 = d by omega]
  rw [bits_join .u32 32 (by decide) wr32 24 (a * 16777216) (b * 65536) (by omega) (by omega) (by omega) (by omega) (by omega) (by omega)]
  rw [bits_join .u32 32 (by decide) wr32 16 (a * 16777216 + b * 65536) (c * 256) (by omega) (by omega) (by omega) (by omega) (by omega) (by omega)]
  rw [bits_join .u32 32 (by decide) wr32 8 (a * 16777216 + b * 65536 + c * 256) d (by omega) (by omega) (by omega) (by omega) (by omega) (by omega)]
set_option maxRecDepth 100000 in
theorem numB_any (w : World) (n : Nat) (hn : n < 4294967296) : Calls Try.prog 46 #[.int .u32 (n : Int)] w fun e w' => e = .returned (.slice (some ⟨w.heap.size, 0, none⟩) 4 4) ∧ Blk w' w.heap.size 5 (bc (nb4 n)).toArray ∧ Below w.heap.size w w' := by
  have h0 : (0 : Int) ≤ n := by omega
  have h1 : (n : Int) ≤ 4294967295 := by omega
  have HE := Lib.hid (bc_nb4 n hn)
  go_enter Try.func46, Try.ntmps46
  go_wp2
  go_ret
  refine ⟨rfl, ?_, (Below.refl _ w).alloc (Nat.le_refl _) _⟩
  rw [HE.out]
  exact Blk.new w 5 _
set_option maxRecDepth 100000 in
theorem rnumB_any (w : World) (n : Nat) (hn : n < 4294967296) : Calls Try.prog 43 #[.int .u32 (n : Int)] w fun e w' => e = .returned (.slice (some ⟨w.heap.size, 0, none⟩) 4 4) ∧ Blk w' w.heap.size 5 (bc (nb4 n)).toArray ∧ Below w.heap.size w w' := by
  have h0 : (0 : Int) ≤ n := by omega
  have h1 : (n : Int) ≤ 4294967295 := by omega
  have HE := Lib.hid (bc_nb4 n hn)
  go_enter Try.func43, Try.ntmps43
  go_wp2
  go_ret
  refine ⟨rfl, ?_, (Below.refl _ w).alloc (Nat.le_refl _) _⟩
  rw [HE.out]
  exact Blk.new w 5 _
set_option maxRecDepth 100000 in
theorem number_any (w : World) (b off m c : Nat) (l : List UInt8) (h : BytesAt w (some ⟨b, off, none⟩) m l) (hm : 4 ≤ m) (hm2 : m ≤ 9223372036854775807) (x : Int) (hx : (rd4 l : Int) = x) : Calls Try.prog 51 #[.slice (some ⟨b, off, none⟩) m c] w fun e w' => e = .returned (.int .u32 x) ∧ ∃ k, w' = w.drewN k := by
  have hl := h.1
  obtain ⟨b', off', e, _, hc⟩ := h.2 (by omega)
  cases e
  have c0 : w.cell? ⟨b, off, none⟩ = _ := hc 0 (by omega)
  have c1 := hc 1 (by omega)
  have c2 := hc 2 (by omega)
  have c3 := hc 3 (by omega)
  have hd := rd4_get l (by omega)
  rw [hx] at hd
  clear h hc hx
  have i0 : (0 : Int) < m := by omega
  have i1 : (1 : Int) < m := by omega
  have i2 : (2 : Int) < m := by omega
  have i3 : (3 : Int) < m := by omega
  have j0 : 0 < m := by omega
  have b0 := l[0].toNat_lt
  have b1 := l[1].toNat_lt
  have b2 := l[2].toNat_lt
  have b3 := l[3].toNat_lt
  generalize l[0].toNat = x0 at *
  generalize l[1].toNat = x1 at *
  generalize l[2].toNat = x2 at *
  generalize l[3].toNat = x3 at *
  have hor := or4 x0 x1 x2 x3 (by omega) (by omega) (by omega) (by omega) (by omega) (by omega) (by omega) (by omega)
  replace hor := hor.trans (show _ = x by omega)
  clear hd b0 b1 b2 b3
  go_enter Try.func51, Try.ntmps51
  go_wp2
  go_quiet (fail)
  go_wp2
  go_ret
  exact ⟨rfl, _, rfl⟩
set_option maxRecDepth 100000 in
theorem read_any (w : World) (b off m c : Nat) (l : List UInt8) (h : BytesAt w (some ⟨b, off, none⟩) m l) (hm : 4 ≤ m) (hm2 : m ≤ 9223372036854775807) (x : Int) (hx : (rd4 l : Int) = x) : Calls Try.prog 54 #[.slice (some ⟨b, off, none⟩) m c] w fun e w' => e = .returned (.int .u32 x) ∧ ∃ k, w' = w.drewN k := by
  have hl := h.1
  obtain ⟨b', off', e, _, hc⟩ := h.2 (by omega)
  cases e
  have c0 : w.cell? ⟨b, off, none⟩ = _ := hc 0 (by omega)
  have c1 := hc 1 (by omega)
  have c2 := hc 2 (by omega)
  have c3 := hc 3 (by omega)
  have hd := rd4_get l (by omega)
  rw [hx] at hd
  clear h hc hx
  have i0 : (0 : Int) < m := by omega
  have i1 : (1 : Int) < m := by omega
  have i2 : (2 : Int) < m := by omega
  have i3 : (3 : Int) < m := by omega
  have j0 : 0 < m := by omega
  have b0 := l[0].toNat_lt
  have b1 := l[1].toNat_lt
  have b2 := l[2].toNat_lt
  have b3 := l[3].toNat_lt
  generalize l[0].toNat = x0 at *
  generalize l[1].toNat = x1 at *
  generalize l[2].toNat = x2 at *
  generalize l[3].toNat = x3 at *
  have HD := Lib.hid hd
  clear hd
  go_enter Try.func54, Try.ntmps54
  go_wp2
  go_quiet (fail)
  go_wp2
  go_ret
  exact ⟨ret_int (by rw [HD.out]; omega), _, rfl⟩
end Go.Proofs.Ytgpofkabidginaa
