/- A log in memory; a sector of data. -/
import Derived.Test.YtgpofkabidginaaWnb
namespace Go.Proofs.Ytgpofkabidginaa
open Go.ChangeShapes Go.WideShapes Go.ChangeAt Go.RowKit Go.ChangeMaps

structure Lg where
  f : Nat
  c : Nat
  e : Nat
  n : Nat
  k : Nat
  t : List UInt8
def Lk (F : Nat → Prop) (w : World) (g p : Nat) (L : Lg) : Prop := ∃ A cap, Blk w g 68 #[.pointer (some ⟨p, 0, none⟩), .int .i64 (L.f : Int), .int .i64 (L.c : Int), .int .u32 (L.e : Int), .int .i64 (L.n : Int), .slice A L.t.length cap, .int .i64 (L.k : Int)] ∧ BA F w A L.t.length L.t ∧ L.t.length ≤ cap ∧ cap ≤ 9223372036854775807
theorem Lk.chg {F G : Nat → Prop} {w w' : World} {g p : Nat} {L : Lg} (h : Lk F w g p L) (hc : Chg G w w') (hG : ∀ k, G k → F k) (hg : ¬ G g) : Lk F w' g p L := by
  obtain ⟨A, cap, h1, h2, h3⟩ := h
  exact ⟨A, cap, h1.chg hc hg, h2.chg (hc.mono hG), h3⟩
theorem Lk.below {F : Nat → Prop} {w w' : World} {g p : Nat} {L : Lg} (h : Lk F w g p L) (hb : Below w.heap.size w w') : Lk F w' g p L := by
  obtain ⟨A, cap, h1, h2, h3⟩ := h
  exact ⟨A, cap, h1.below hb, h2.below hb, h3⟩
theorem wsec_steps (e : Nat) (d : List UInt8) (h : d.length ≤ 59) : splice ((splice zeros 0 d).set 59 (UInt8.ofNat d.length)) 60 (nb4 e) = wsec e d := by
  have h1 : splice zeros 0 d = (d ++ List.replicate (59 - d.length) 0) ++ 0 :: List.replicate 4 0 := by
    unfold splice zeros
    rw [List.take_zero, List.nil_append, List.drop_replicate, show (0 : UInt8) :: List.replicate 4 0 = List.replicate 5 0 from rfl, List.append_assoc, List.replicate_append_replicate]
    congr 2
    omega
  rw [h1, List.set_append_right _ _ (by rw [pad_len d h]; omega), pad_len d h]
  simp only [Nat.sub_self, List.set_cons_zero]
  unfold splice wsec
  have hp := pad_len d h
  generalize d ++ List.replicate (59 - d.length) 0 = q at *
  rw [List.take_append, List.drop_append, List.take_of_length_le (by omega), List.drop_of_length_le (by omega), hp, nb4_len]
  simp
theorem wsec_stepsN (e : Nat) (d : List UInt8) {n : Nat} (hd : d.length = n) (h : n ≤ 59) : splice ((splice zeros 0 d).set 59 (UInt8.ofNat n)) 60 (nb4 e) = wsec e d := by
  subst hd; exact wsec_steps e d h
theorem bc_setI (L : List UInt8) (k : Nat) (n : Nat) (hn : n < 256) : (bc L).toArray.setIfInBounds k (.int .u8 (n : Int)) = (bc (L.set k (UInt8.ofNat n))).toArray := by
  have := bc_set L k (UInt8.ofNat n)
  rw [UInt8.toNat_ofNat', show n % 2 ^ 8 = n by omega] at this
  exact this
/-- 'copy' into a block that is known whole. -/
theorem copy_blk {w0 w : World} {g o : Nat} {L d : List UInt8} {A : Option Addr} {n c : Nat} (m : Nat) (hm : m = L.length) (hK : Blk w g 5 (bc L).toArray) (hB : Below w0.heap.size w0 w) (hg : w0.heap.size ≤ g) (hd : BytesAt w A n d) (hn : o + n ≤ m) :
    ∃ (k : Value) (W : World), (Builtin.copy_ #[38, 38] 3 #[.slice (some ⟨g, o, none⟩) (m - o) (m - o), .slice A n c]).run Try.prog w = .ok k W ∧ Blk W g 5 (bc (splice L o d)).toArray ∧ Below w0.heap.size w0 W ∧ Chg (fun b => b = g) w W := by
  subst hm
  have hl := hd.1
  rcases Nat.eq_zero_or_pos n with h0 | h0
  · subst h0
    obtain rfl : d = [] := List.eq_nil_of_length_eq_zero hl
    exact ⟨_, _, run_copy_none (P := Try.prog) w 38 38 3 5 _ _ _ _ 0 c Try.underlying38 size5 rfl, by simpa [splice] using hK, hB, Chg.refl _ _⟩
  · obtain ⟨b, off, rfl, hbl, hcc⟩ := hd.2 h0
    have hcl : (bc d).length = Nat.min n (L.length - o) := by rw [bc_len, hl]; exact (Nat.min_eq_left (by omega)).symm
    have hdt : d.take n = d := List.take_of_length_le (by omega)
    refine ⟨_, _, run_copy_spl (P := Try.prog) w 38 38 3 5 g o (L.length - o) (L.length - o) ⟨b, off, none⟩ n c _ 5 (bc d) Try.underlying38 size5 hK hcl (fun j v hj => src_take (n := n) hcc j v (by rw [hdt]; exact hj)) ?_ (bc_one _), ?_, ?_, ?_⟩
    · rw [bc_len, bc_len]; omega
    · rw [bc_splice]
      exact setRow_heap w g (bc L).toArray _ 5 _ hK
    · exact below_setRow hB hg _
    · exact (Chg.refl _ _).row rfl
end Go.Proofs.Ytgpofkabidginaa
