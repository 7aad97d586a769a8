/- A disk and its reference are the same; the case's disks; free sectors. -/
import Derived.Test.YtgpofkabidginaaWlw
namespace Go.Proofs.Ytgpofkabidginaa
open Go.ChangeShapes Go.WideShapes Go.ChangeAt Go.RowKit Go.ChangeMaps

set_option maxRecDepth 100000 in
set_option maxHeartbeats 2000000 in
theorem same_any (w : World) (p q r t : Nat) (s : St) (F : Nat → Prop) (hd : Dk w p q s) (hrk : Rk F w r t s) (hf : s.f = false) :
    Calls Try.prog 24 #[.pointer (some ⟨p, 0, none⟩), .pointer (some ⟨r, 0, none⟩)] w fun e w' => e = .returned (.bool true) ∧ Below w.heap.size w w' := by
  have HD := Lib.hid hd
  have HR := Lib.hid hrk
  have hn : s.R.length ≤ 65536 := hd.2.2.2.2.2.1
  have H64 := Lib.hid hd.2.2.2.1
  obtain ⟨cap, hcap, c0, -⟩ := hrk.cells
  clear hd hrk
  obtain ⟨n, hnn⟩ : ∃ n, s.R.length = n := ⟨_, rfl⟩
  have HNN := Lib.hid hnn
  rw [hnn] at hn hcap c0
  clear hnn
  go_enter Try.func24, Try.ntmps24
  go_wp2
  go_loopw [5, 13] (fun _ i wr => ∃ k : Nat, k ≤ n ∧ i = .int .i64 (k : Int) ∧ Below w.heap.size w wr) (fun _ i _ => n - (intOf i).toNat)
  case atStart => exact ⟨0, Nat.zero_le _, rfl, Below.refl _ _⟩
  case round =>
    obtain ⟨k, hk, rfl, hB⟩ := hrel
    have HB := Lib.hid hB
    clear hB
    by_cases hlt : k < n
    · have hkl : k < s.R.length := by rw [HNN.out]; exact hlt
      have hki : (k : Int) < n := by omega
      have hkk : (0 : Int) ≤ k := by omega
      have CRD := Lib.hid (Read_ok wr p q _ (HD.out.below HB.out) hf k hkl)
      go_wp2_with fail
      refine CRD.out.mono ?_
      rintro e v5 ⟨g5, rfl, hg5, hk5, hb5⟩
      have HB5 := Lib.hid (HB.out.trans (hb5.mono HB.out.size))
      have d0 : v5.cell? ⟨r, 0, none⟩ = some (.slice (some ⟨t, 0, none⟩) n cap) := keepcell HB5.out c0
      obtain ⟨A9, c9, e9, -, -, b9, -⟩ := HR.out.sec k hkl
      have e9 : v5.cell? ⟨t, k, none⟩ = some (.slice A9 64 c9) := keepcell HB5.out e9
      have x1 := (bytes_of_blk (n := 64) hk5 (getD_len64 H64.out hkl))
      have x2 := (b9.at.below HB5.out)
      have r1 := string_at (c := 64) (x1.below (below_drew (Below.refl _ v5)))
      have r2 := string_at (c := c9) (x2.below (below_drew (Below.refl _ v5)))
      generalize s.R.getD k [] = sec at *
      clear hk5 hb5 hg5 CRD b9 x1 x2
      go_wp2
      go_region
      go_wp2
      go_roundw
      case rel => exact ⟨k + 1, by omega, by go_num, below_drew HB5.out⟩
      case measure => simp [intOf]; omega
    · obtain rfl : k = n := by omega
      go_wp2
      go_ret
      exact ⟨rfl, HB.out⟩
/-- The bytes of a sector that begins with some bytes. -/
def pad64 (d : List UInt8) : List UInt8 := d.take 64 ++ List.replicate (64 - d.length) 0
theorem pad64_len (d : List UInt8) : (pad64 d).length = 64 := by unfold pad64; simp; omega
theorem pad64_splice (d : List UInt8) : splice zeros 0 (d.take 64) = pad64 d := by
  unfold splice pad64 zeros
  rw [List.take_zero, List.nil_append, List.drop_replicate, List.length_take]
  congr 2
  omega
theorem copy64 {w0 w : World} {g : Nat} {d : List UInt8} {A : Option Addr} {n c : Nat} (hK : Blk w g 5 (bc zeros).toArray) (hB : Below w0.heap.size w0 w) (hg : w0.heap.size ≤ g) (hd : BytesAt w A n d) :
    ∃ (m : Value) (W : World), (Builtin.copy_ #[38, 38] 3 #[.slice (some ⟨g, 0, none⟩) 64 64, .slice A n c]).run Try.prog w = .ok m W ∧ Blk W g 5 (bc (pad64 d)).toArray ∧ Below w0.heap.size w0 W := by
  have hl := hd.1
  rcases Nat.eq_zero_or_pos n with h0 | h0
  · subst h0
    obtain rfl : d = [] := List.eq_nil_of_length_eq_zero hl
    exact ⟨_, _, run_copy_none (P := Try.prog) w 38 38 3 5 _ _ 64 64 0 c Try.underlying38 size5 rfl, by simpa [pad64, zeros] using hK, hB⟩
  · obtain ⟨b, off, rfl, hbl, hcc⟩ := hd.2 h0
    have hcl : (bc (d.take 64)).length = Nat.min n 64 := by rw [bc_len, List.length_take, hl]; exact Nat.min_comm _ _
    refine ⟨_, _, run_copy_spl (P := Try.prog) w 38 38 3 5 g 0 64 64 ⟨b, off, none⟩ n c _ 5 (bc (d.take 64)) Try.underlying38 size5 hK hcl (fun j v => src_take hcc j v) ?_ (bc_one _), ?_, ?_⟩
    · have : Nat.min n 64 ≤ 64 := Nat.min_le_right _ _
      rw [hcl, bc_len]
      simp only [zeros, List.length_replicate]
      omega
    · rw [bc_splice, pad64_splice]
      exact setRow_heap w g (bc zeros).toArray _ 5 _ hK
    · exact below_setRow hB hg _
set_option maxRecDepth 100000 in
set_option maxHeartbeats 2000000 in
theorem disks_any (w : World) (x : Cs) (h : CsAt w x) (N : Nat) (hS : x.S = (N : Int)) (hN1 : 1 ≤ N) (hN : N ≤ 12) (hon : x.on ≤ N) :
    Calls Try.prog 13 #[x.v] w fun e w' => ∃ p q r t s, e = .returned (.tuple #[.pointer (some ⟨p, 0, none⟩), .pointer (some ⟨r, 0, none⟩)]) ∧ DM w' p q r t s ∧ s.R.length = N ∧ s.f = false ∧ s.a = 0 ∧ s.x ≤ 12 ∧ (∀ k, F4 p q r t k → w.heap.size ≤ k) ∧ Below w.heap.size w w' := by
  obtain ⟨S, F, C, E, OA, on, oc, OL, RA', rn, rc, RL⟩ := x
  simp only [Cs.v] at *
  subst hS
  have HO := Lib.hid h.ol
  obtain ⟨ho1, ho2⟩ := h.oc
  simp only at ho1 ho2
  obtain ⟨cs, hcs, hmk⟩ := make64
  have HCS := Lib.hid (show ∀ W : World, Blk (W.alloc (.cells cs 5)) W.heap.size 5 (bc zeros).toArray from fun W => by rw [hcs.out]; exact Blk.new _ _ _)
  clear hcs h
  obtain ⟨W0, hW0⟩ : ∃ W, W = w.alloc (.cells #[.int .i64 (N : Int), .slice OA on oc, .int .i64 F, .int .i64 C, .int .u32 (E : Int), .slice RA' rn rc] 25) := ⟨_, rfl⟩
  have HB0 := Lib.hid (show Below w.heap.size w W0 from by rw [hW0]; exact (Below.refl _ w).alloc (Nat.le_refl _) _)
  have HK0 := Lib.hid (show Blk W0 w.heap.size 25 #[.int .i64 (N : Int), .slice OA on oc, .int .i64 F, .int .i64 C, .int .u32 (E : Int), .slice RA' rn rc] from by rw [hW0]; exact Blk.new _ _ _)
  have hwl : w.heap.size < W0.heap.size := HK0.out.lt
  go_enter Try.func13, Try.ntmps13
  go_wp2_with fail
  refine (New_ok _ N hN1 (by omega)).mono ?_
  rintro e w1 ⟨rfl, hd, hb⟩
  rw [← hW0] at hd hb ⊢
  have HD := Lib.hid hd
  have HW := Lib.hid (HB0.out.trans (hb.mono HB0.out.size))
  have hlt : W0.heap.size + 1 < w1.heap.size := hd.1.lt
  have k0 : w1.cell? ⟨w.heap.size, 0, none⟩ = some (.int .i64 (N : Int)) := (HK0.out.below hb).cell 0
  have HK1 := Lib.hid (HK0.out.below hb)
  clear hd hb hW0
  go_wp2_with fail
  refine (RNewN_any w1 N hN1 (by omega)).mono ?_
  rintro e w2 ⟨rfl, ⟨v, G, h1, h2, h3⟩, hb⟩
  obtain ⟨t, ht1, ht2, hrk⟩ := Rk_newN hN1 (by omega) h1 h2 h3 (Nat.le_refl _)
  have hrk := hrk (F4 (W0.heap.size + 1) W0.heap.size w1.heap.size t) (fun k hk => by
    rcases hk with e | e | e | e
    · left; omega
    · left; omega
    · right; left; exact e
    · right; right; exact e)
  have HM := Lib.hid (show DM w2 (W0.heap.size + 1) W0.heap.size w1.heap.size t (St.new N) from ⟨HD.out.below hb, hrk, by omega, by omega, by omega, by omega⟩)
  have HF := Lib.hid (show ∀ k, F4 (W0.heap.size + 1) W0.heap.size w1.heap.size t k → w.heap.size < k from fun k hk => by rcases hk with e | e | e | e <;> omega)
  replace HW := Lib.hid (HW.out.trans (hb.mono HW.out.size))
  have HK2 := Lib.hid (HK1.out.below hb)
  have k1 : w2.cell? ⟨w.heap.size, 1, none⟩ = some (.slice OA on oc) := HK2.out.cell 1
  clear h1 h2 h3 hrk hb HD hlt ht1 ht2 k0 HK0 HK1
  generalize W0.heap.size + 1 = p at *
  generalize W0.heap.size = q at *
  generalize w1.heap.size = r at *
  go_wp2_with fail
  go_loopw [33] (fun i wr => ∃ (k : Nat) (s : St), k ≤ on ∧ i = .int .i64 (k : Int) ∧ DM wr p q r t s ∧ s.R.length = N ∧ s.f = false ∧ s.a = 0 ∧ s.x ≤ k ∧ Below w.heap.size w wr) (fun i _ => on - (intOf i).toNat)
  case atStart => exact ⟨0, St.new N, Nat.zero_le _, rfl, HM.out, by simp [St.new], rfl, rfl, by simp [St.new], HW.out⟩
  case round =>
    clear HM HW k1 HK2
    obtain ⟨k, s, hk, rfl, hM, hRN, hsf, hsa, hxk, hB⟩ := hrel
    have HM := Lib.hid hM
    have HW := Lib.hid hB
    clear hM hB
    by_cases hlt : k < on
    · have hkn : (k : Int) < (on : Int) := by omega
      obtain ⟨ob, off, rfl, hbl, -, hcc⟩ := HO.out.2.1 (by omega)
      have hk2 : k < OL.length := by rw [HO.out.1]; exact hlt
      obtain ⟨y, hy⟩ : ∃ y, OL[k] = y := ⟨_, rfl⟩
      have q1 := hcc k hk2
      rw [hy] at q1
      have q1 : wr.cell? ⟨ob, off + k, none⟩ = some (.slice y.A y.n y.c) := keepcell HW.out q1
      have hyb := (HO.out.2.2 y (hy ▸ List.getElem_mem _)).1
      clear hcc hy
      obtain ⟨yA, yn, yc, yl⟩ := y
      simp only at q1 hyb
      have hbel : Below wr.heap.size wr (wr.alloc (.cells cs 5)) := (Below.refl _ wr).alloc (Nat.le_refl _) _
      have HW1 := Lib.hid (HW.out.trans (hbel.mono HW.out.size))
      obtain ⟨mv, W2, qc, hk5, hb2⟩ := copy64 (w0 := wr) (c := yc) (HCS.out wr) hbel (Nat.le_refl _) (hyb.at.below HW1.out)
      have HK5 := Lib.hid hk5
      have HM2 := Lib.hid (HM.out.below hb2)
      have HW2 := Lib.hid (HW.out.trans (hb2.mono HW.out.size))
      have hng : ¬ F4 p q r t wr.heap.size := fun e => by have := DM.lt HM.out.d HM.out.rk _ e; omega
      have hxx : s.x < 1000000000 := by omega
      have HC1 := Lib.hid (Write_any W2 p q s HM2.out.d hxx (k : Int) (some ⟨wr.heap.size, 0, none⟩) 64 64 (pad64 yl) (ba_of_blk HK5.out (pad64_len _) (fun e => hng (F4_pq e))) (Nat.le_refl _))
      have HNG := Lib.hid hng
      have HWR : Hid ((s.Wr (k : Int) (pad64 yl)) = ({ s with R := s.R.set k (pad64 yl), a := s.a - 1, x := s.x + 1 }, 0)) := Lib.hid (by
        unfold St.Wr
        rw [if_neg (by rw [hsf]; decide), if_pos ⟨by omega, by rw [hRN]; omega, pad64_len yl⟩]
        unfold St.wr
        rw [if_neg (by rw [hsa]; decide), Int.toNat_natCast])
      rw [HWR.out] at HC1
      clear hk5 hb2 hbel hyb hng
      go_wp2_with fail
      refine HC1.out.mono ?_
      rintro e w5 ⟨rfl, hd5, hc5⟩
      have HD5 := Lib.hid hd5
      have HR5 := Lib.hid (HM2.out.rk.pq HM.out.ne hc5)
      have HW5 := Lib.hid ((hc5.mono (fun _ => F4_pq)).below HW2.out (fun k hk => Nat.le_of_lt (HF.out k hk)) HW2.out.size)
      have HC2 := Lib.hid (RWrite_any (F4 p q r t) w5 r t s HR5.out (.inr (.inr (.inl rfl))) (.inr (.inr (.inr rfl))) (fun k hk => Nat.lt_of_lt_of_le (DM.lt HM2.out.d HM2.out.rk k hk) hc5.size) hxx (k : Int) (some ⟨wr.heap.size, 0, none⟩) 64 64 (pad64 yl) ((ba_of_blk HK5.out (pad64_len _) HNG.out).chg (hc5.mono (fun _ => F4_pq))) (Nat.le_refl _))
      rw [HWR.out] at HC2
      clear hd5 hc5 HC1
      go_wp2_with fail
      refine HC2.out.mono ?_
      rintro e w6 ⟨rfl, hr6, hc6⟩
      have HM6 := Lib.hid (show DM w6 p q r t _ from ⟨HD5.out.rt HM.out.ne hc6, hr6, HM.out.ne⟩)
      have HW6 := Lib.hid ((hc6.mono (fun _ => F4_rt)).below HW5.out (fun k hk => Nat.le_of_lt (HF.out k hk)) HW5.out.size)
      clear hr6 hc6 HC2
      go_wp2
      go_roundw
      case rel => exact ⟨k + 1, _, by omega, by go_num, HM6.out, by simpa using hRN, hsf, by simp [hsa], by simp; omega, HW6.out⟩
      case measure => simp [intOf]; omega
    · obtain rfl : k = on := by omega
      go_wp2
      go_ret2
      exact ⟨p, q, r, t, s, rfl, HM.out, hRN, hsf, hsa, by omega, fun k hk => Nat.le_of_lt (HF.out k hk), HW.out⟩
end Go.Proofs.Ytgpofkabidginaa
