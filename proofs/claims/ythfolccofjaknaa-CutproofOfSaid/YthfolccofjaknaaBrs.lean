/- The reference: the long division, DivFloor and GCD (bodies Bsp, Bsq, Brd, Brk). -/
import Derived.Test.YthfolccofjaknaaMB
import Derived.Test.YthfolccofjaknaaBra
import Derived.Test.YthfolccofjaknaaBqr
import Derived.Test.YthfolccofjaknaaMA
namespace Go.Proofs.Ythfolccofjaknaa
open Go.ChangeShapes Go.WideShapes Go.ChangeAt Go.RowKit Go.ChangeMaps
/- Bsp -/

theorem bit_half (X bit : Nat) (hb : 0 < bit) : X / bit = 2 * (X / (2 * bit)) + X / bit % 2 := by
  have h : X / (2 * bit) = X / bit / 2 := by rw [Nat.mul_comm, Nat.div_div_eq_div_mul]
  rw [h]
  omega
theorem mult_half (Y bit : Nat) (hb : 0 < bit) (hY : 2 * bit ∣ Y) : Y / bit = 2 * (Y / (2 * bit)) := by
  obtain ⟨k, rfl⟩ := hY
  rw [Nat.mul_div_cancel_left _ (by omega), show 2 * bit * k = bit * (2 * k) by rw [Nat.mul_comm 2 bit, Nat.mul_assoc], Nat.mul_div_cancel_left _ hb]
/-- A bit of the quotient that is not set. -/
theorem split_zero (X Y B r bit : Nat) (hb : 0 < bit) (h1 : X / (2 * bit) = Y / (2 * bit) * B + r) (hY : 2 * bit ∣ Y) : X / bit = Y / bit * B + (2 * r + X / bit % 2) ∧ bit ∣ Y := by
  refine ⟨?_, Nat.dvd_trans (Nat.dvd_mul_left bit 2) hY⟩
  have e := bit_half X bit hb
  rw [mult_half Y bit hb hY]
  have : 2 * (Y / (2 * bit)) * B = 2 * (Y / (2 * bit) * B) := by rw [Nat.mul_assoc]
  omega
/-- A bit of the quotient that is set. -/
theorem split_one (X Y B r bit : Nat) (hb : 0 < bit) (h1 : X / (2 * bit) = Y / (2 * bit) * B + r) (hY : 2 * bit ∣ Y) (hr : B ≤ 2 * r + X / bit % 2) : X / bit = (Y + bit) / bit * B + (2 * r + X / bit % 2 - B) ∧ bit ∣ Y + bit := by
  obtain ⟨h2, h3⟩ := split_zero X Y B r bit hb h1 hY
  refine ⟨?_, Nat.dvd_add h3 (Nat.dvd_refl bit)⟩
  rw [Nat.add_div_right _ hb, Nat.succ_mul]
  omega
theorem split_less (B r x : Nat) (hr : r < B) (hx : x < 2) : 2 * r + x - B < B := by omega
/-- The bit of a digit is the bit of the number. -/
theorem digit_bit (A D bit k : Nat) (hb : 0 < bit) (hk : bit * (2 * k) = 65536) : (A * 65536 + D) / bit % 2 = D / bit % 2 := by
  rw [← hk, show A * (bit * (2 * k)) + D = D + bit * (A * (2 * k)) by rw [Nat.add_comm, Nat.mul_left_comm], Nat.add_mul_div_left _ _ hb, show A * (2 * k) = 2 * (A * k) by rw [Nat.mul_left_comm]]
  omega
/-- What a digit's round begins with. -/
theorem split_start (A Q D B r : Nat) (hD : D < 65536) (h : A = Q * B + r) : (A * 65536 + D) / 65536 = Q * 65536 / 65536 * B + r ∧ 65536 ∣ Q * 65536 := by
  refine ⟨?_, Nat.dvd_mul_left 65536 Q⟩
  rw [Nat.mul_div_cancel _ (by decide), ← h]
  omega

/- Bsq -/

/-- The state of the division within a digit: 2^k is twice the bit that comes next. -/
def SpP (k X Y0 B y r : Nat) : Prop := X / 2 ^ k = (Y0 + y) / 2 ^ k * B + r ∧ 2 ^ k ∣ Y0 + y ∧ r < B ∧ y + 2 ^ k ≤ 65536
theorem SpP.start {A Q D B r : Nat} (hD : D < 65536) (h : A = Q * B + r) (hr : r < B) : SpP 16 (A * 65536 + D) (Q * 65536) B 0 r := by
  obtain ⟨h1, h2⟩ := split_start A Q D B r hD h
  have e : (2 : Nat) ^ 16 = 65536 := rfl
  unfold SpP
  rw [e, Nat.add_zero]
  exact ⟨h1, h2, hr, by omega⟩
theorem SpP.zero {k X Y0 B y r x : Nat} (h : SpP (k + 1) X Y0 B y r) (hx : X / 2 ^ k % 2 = x) (hl : 2 * r + x < B) : SpP k X Y0 B y (2 * r + x) := by
  obtain ⟨h1, h2, h3, h4⟩ := h
  have hb : 0 < 2 ^ k := Nat.pow_pos (by decide)
  rw [Nat.pow_succ, Nat.mul_comm] at h1 h2 h4
  obtain ⟨g1, g2⟩ := split_zero X (Y0 + y) B r (2 ^ k) hb h1 h2
  rw [hx] at g1
  exact ⟨g1, g2, hl, by omega⟩
theorem SpP.one {k X Y0 B y r x : Nat} (h : SpP (k + 1) X Y0 B y r) (hx : X / 2 ^ k % 2 = x) (hl : B ≤ 2 * r + x) : SpP k X Y0 B (y + 2 ^ k) (2 * r + x - B) := by
  obtain ⟨h1, h2, h3, h4⟩ := h
  have hb : 0 < 2 ^ k := Nat.pow_pos (by decide)
  rw [Nat.pow_succ, Nat.mul_comm] at h1 h2 h4
  have hx2 : x < 2 := by rw [← hx]; omega
  obtain ⟨g1, g2⟩ := split_one X (Y0 + y) B r (2 ^ k) hb h1 h2 (by rw [hx]; exact hl)
  rw [hx, Nat.add_assoc] at g1
  rw [Nat.add_assoc] at g2
  exact ⟨g1, g2, split_less B r x h3 hx2, by omega⟩
theorem SpP.stop {X Y0 B y r : Nat} (h : SpP 0 X Y0 B y r) : X = (Y0 + y) * B + r ∧ r < B ∧ y < 65536 := by
  obtain ⟨h1, _, h3, h4⟩ := h
  rw [Nat.pow_zero, Nat.div_one, Nat.div_one] at h1
  exact ⟨h1, h3, by omega⟩
theorem make64 (n : Nat) (hn : n ≤ 1000000) (w : World) : (Instr.makeSlice 88 (.int .i64 (n : Int)) (.int .i64 (n : Int))).run Try.prog w = .ok (.slice (some ⟨w.heap.size, 0, none⟩) n n) (w.alloc (.cells (hc (List.replicate n 0)) 3)) := by
  obtain ⟨i, hi, hz, hs, hb⟩ := info_parts (show (Try.prog.info? 3).map (fun i => (i.zero, i.size, i.bytes)) = some (some (.int .i64 0), 1, 8) by kernel_rfl)
  have := run_make (P := Try.prog) w 88 3 i _ Try.underlying88 hi hz .i64 .i64 (n : Int) (n : Int) (by omega) (Int.le_refl _) (by rw [hb]; omega) (by omega)
  rw [hs] at this
  rw [Int.toNat_natCast] at this
  have e : madeCells (Value.int .i64 0).cells (n * 1) = hc (List.replicate n 0) := by
    apply Array.ext
    · simp [hc, madeCells]
    · intro j h1 h2
      simp [hc, madeCells, Value.cells, Nat.mod_one]
  rw [this, e]
theorem HV.fit {w : World} {v : Value} {x N : Nat} {M : List Nat} (h : HV w v x N) (hM : dok 65536 M) (hx : x ≤ dv 65536 M) : HV w v x M.length := by
  obtain ⟨A, n, c, L, e, hg, hs, hn, hv, hN⟩ := h
  refine ⟨A, n, c, L, e, hg, hs, hn, hv, ?_⟩
  rw [← hg.1]
  exact nmz_le16 hg.2.1 hM hn (by rw [hv]; exact hx)
/-- A store into another block. -/
theorem HV.set {w : World} {v : Value} {x N B g i : Nat} {u : Value} (h : HV w v x N) (hf : Fr B v) (hg : g < B) : HV (w.setCell ⟨g, i, none⟩ u) v x N := by
  obtain ⟨A, n, c, L, e, hg', hs, hn, hv, hN⟩ := h
  refine ⟨A, n, c, L, e, ⟨hg'.1, hg'.2.1, fun h0 => ?_⟩, hs, hn, hv, hN⟩
  obtain ⟨b, off, rfl, hl, hc⟩ := hg'.2.2 h0
  have hB := hf b off n c e
  refine ⟨b, off, rfl, Nat.lt_of_lt_of_le hl (grown_set w g i u).size, fun j d hd => ?_⟩
  rw [← hc j d hd]
  exact World.cell?_of_block (w := w) ((grown_set w g i u).block b hl (by simp; omega))
theorem minus_fr (v1 v2 : Value) (x y N : Nat) (w : World) (h : HV w v1 x N) (h2 : HV w v2 y N) (hN : N ≤ 90000) (hle : y ≤ x) : Calls Try.prog 68 #[v1, v2] w fun e w' => ∃ v', e = .returned v' ∧ HV w' v' (x - y) N ∧ Fr w.heap.size v' ∧ Below w.heap.size w w' := by
  obtain ⟨A, n, c, L, rfl, hg, hs, hn, hv, hnN⟩ := h
  obtain ⟨A2, n2, c2, L2, rfl, hg2, hs2, hn2, hv2, hnN2⟩ := h2
  have hl : L2.length ≤ L.length := nmz_le16 hg2.2.1 hg.2.1 hn2 (by rw [hv, hv2]; exact hle)
  refine (minus_at A n c L A2 n2 c2 L2 w hg hg2 (by omega) (by rw [← hg.1, ← hg2.1]; exact hl) (by rw [hv, hv2]; exact hle)).mono ?_
  rintro e w' ⟨v', rfl, h1, hf, hb⟩
  rw [hv, hv2] at h1
  exact ⟨v', rfl, h1.mono hnN, hf, hb⟩
/-- A new list of a one. -/
theorem hv_one (w : World) (d : Nat) (h0 : 0 < d) (hd : d < 65536) : HV (w.alloc (.cells #[.int .i64 (d : Int)] 3)) (.slice (some ⟨w.heap.size, 0, none⟩) 1 1) d 1 := by
  refine ⟨_, 1, 1, [d], rfl, ⟨rfl, dok_cons.2 ⟨hd, dok_nil _⟩, fun _ => ⟨w.heap.size, 0, rfl, by simp, fun j e hj => ?_⟩⟩, Sl.own (Nat.le_refl _) (by decide), ?_, by simp [dv], Nat.le_refl _⟩
  · match j, hj with
    | 0, hj => obtain rfl : d = e := (by simpa using hj); exact newcell 0 _ rfl rfl
    | j + 1, hj => simp at hj
  · intro d' h'
    obtain rfl : d = d' := by simpa using h'
    omega
set_option maxRecDepth 100000 in
set_option maxHeartbeats 4000000 in
theorem split_any (A : Option Addr) (n c : Nat) (L : List Nat) (A2 : Option Addr) (m c2 : Nat) (M : List Nat) (w : World) (h : HG w A n L) (h2 : HG w A2 m M) (hs2 : Sl A2 m c2) (nM : nmz M) (hM : 0 < dv 65536 M) (hn : n ≤ 20000) (hm : m ≤ 20000) : Calls Try.prog 73 #[.slice A n c, .slice A2 m c2] w fun e w' => ∃ vq vr, e = .returned (.tuple #[vq, vr]) ∧ HV w' vq (dv 65536 L / dv 65536 M) n ∧ HV w' vr (dv 65536 L % dv 65536 M) m ∧ Below w.heap.size w w' := by
  have HA := Lib.hid h.at
  have HL := Lib.hid h.1
  have HKL := Lib.hid h.2.1
  obtain ⟨B, hBd⟩ : ∃ B, dv 65536 M = B := ⟨_, rfl⟩
  rw [hBd] at hM ⊢
  have HML := Lib.hid h2.1
  have HKM := Lib.hid h2.2.1
  have HVB := Lib.hid (show HV w (.slice A2 m c2) B m from ⟨A2, m, c2, M, rfl, h2, hs2, nM, hBd, Nat.le_refl _⟩)
  have HBM := Lib.hid hBd
  have HB0 := Lib.hid hM
  clear h h2 nM hBd hs2
  have hmk := make64 n (by omega) w
  obtain ⟨W0, hW0⟩ : ∃ W, W = w.alloc (.cells (hc (List.replicate n 0)) 3) := ⟨_, rfl⟩
  rw [← hW0] at hmk
  have hb0 : Below w.heap.size w W0 := by rw [hW0]; exact (Below.refl _ w).alloc (Nat.le_refl _) _
  have hk0 : Blk W0 w.heap.size 3 (hc (List.replicate n 0)) := by rw [hW0]; exact Blk.new _ _ _
  obtain ⟨g, hg⟩ : ∃ g, w.heap.size = g := ⟨_, rfl⟩
  have HGe := Lib.hid (show w.heap.size ≤ g by omega)
  rw [hg] at hk0 hmk
  obtain ⟨W1, hW1⟩ : ∃ W, W = W0.alloc (.cells #[] 3) := ⟨_, rfl⟩
  have HB1 := Lib.hid (show Below w.heap.size w W1 by rw [hW1]; exact hb0.alloc hb0.size _)
  have HK1 := Lib.hid (show Blk W1 g 3 (hc (List.replicate n 0)) by rw [hW1]; exact hk0.alloc _)
  have HV1 := Lib.hid (show HV W1 (.slice (some ⟨W0.heap.size, 0, none⟩) 0 0) 0 m from ⟨_, 0, 0, [], rfl, ⟨rfl, dok_nil _, fun h => absurd h (Nat.lt_irrefl 0)⟩, Sl.own (Nat.le_refl _) (by decide), nmz_nil, rfl, Nat.zero_le _⟩)
  have HS0 := Lib.hid (show g < W0.heap.size from hk0.lt)
  have HW1 := Lib.hid hW1
  clear hW0 hW1 hb0 hk0 hM
  go_enter Try.func73, Try.ntmps73
  go_wp2
  rw [← HW1.out]
  clear hmk HW1 hg
  go_loopw [7, 8] (fun s7 s8 wr => ∃ (i : Nat) (x : Int) (R : List Nat) (r : Nat), s8 = .int .i64 x ∧ x = (i : Int) - 1 ∧ i ≤ n ∧ R.length = n ∧ dok 65536 R ∧ (∀ (j d : Nat), j < i → R[j]? = some d → d = 0) ∧ dv 65536 (L.drop i) = dv 65536 (R.drop i) * B + r ∧ r < B ∧ HV wr s7 r m ∧ Blk wr g 3 (hc R) ∧ Below w.heap.size w wr) (fun _ s8 _ => (intOf s8 + 1).toNat)
  case atStart => exact ⟨n, _, List.replicate n 0, 0, rfl, rfl, Nat.le_refl _, by simp, dok_rep (by decide) _, fun j d _ hd => by rw [List.getElem?_replicate] at hd; split at hd <;> simp_all, by rw [List.drop_of_length_le (by rw [HL.out]; exact Nat.le_refl _), List.drop_of_length_le (by simp)]; simp [dv], HB0.out, HV1.out, HK1.out, HB1.out⟩
  case round =>
    obtain ⟨i', x, R, r, rfl, hx, hin, hRl, hRd, hz, hinv, hrB, hv, hk, hb⟩ := hrel
    have HRL := Lib.hid hRl
    have HR := Lib.hid hRd
    have HZ := Lib.hid hz
    have HI := Lib.hid hinv
    have HRB := Lib.hid hrB
    have HV0 := Lib.hid hv
    have HK := Lib.hid hk
    have HBW := Lib.hid hb
    clear hRl hRd hz hinv hrB hv hk hb HB1 HK1 HV1
    rcases Nat.eq_zero_or_pos i' with h0 | h0
    · subst h0
      obtain rfl : x = -1 := by omega
      clear hx
      have HQR := Lib.hid (show dv 65536 R = dv 65536 L / B ∧ r = dv 65536 L % B from by
        have h1 := HI.out
        rw [List.drop_zero, List.drop_zero] at h1
        rw [h1]
        have h2 := HRB.out
        exact ⟨by rw [Nat.mul_comm, Nat.mul_add_div HB0.out, Nat.div_eq_of_lt h2, Nat.add_zero], by rw [Nat.mul_comm, Nat.mul_add_mod, Nat.mod_eq_of_lt h2]⟩)
      have HGQ := Lib.hid (show HG wr (some ⟨g, 0, none⟩) n R from ⟨HRL.out, HR.out, fun _ => ⟨g, 0, rfl, HK.out.lt, fun j d hd => by rw [Nat.zero_add]; exact (HK.out.cell j).trans (hc_get hd)⟩⟩)
      have CT := Lib.hid (rtrim_any (some ⟨g, 0, none⟩) n n R wr HGQ.out (Sl.own (Nat.le_refl _) (by omega)))
      rw [HQR.out.1] at CT
      rw [HQR.out.2] at HV0
      go_wp2_with fail
      refine CT.out.mono ?_
      rintro e w7 ⟨⟨v, rfl, hv⟩, hy⟩
      replace hy := hy.symm
      subst hy
      have HV7 := Lib.hid hv
      clear hv CT
      go_wp2
      go_ret2
      exact ⟨_, _, rfl, HV7.out, HV0.out, HBW.out⟩
    · obtain ⟨i, rfl⟩ : ∃ i, i' = i + 1 := ⟨i' - 1, by omega⟩
      obtain rfl : x = (i : Int) := by omega
      clear hx h0
      have hiI : (i : Int) < (n : Int) := by omega
      have hi0 : (0 : Int) ≤ (i : Int) := by omega
      have hi1 : (i : Int) ≥ 0 := by omega
      obtain ⟨b, off, rfl, hbl, hcell⟩ := HA.out (by omega)
      obtain ⟨D, hD⟩ : ∃ d, L[i]? = some d := ⟨_, List.getElem?_eq_getElem (by rw [HL.out]; omega)⟩
      have hDB := dok_at HKL.out hD
      obtain ⟨y0, hy0⟩ : ∃ d, R[i]? = some d := ⟨_, List.getElem?_eq_getElem (by rw [HRL.out]; omega)⟩
      obtain rfl : y0 = 0 := HZ.out i y0 (by omega) hy0
      have hdr := dv_drop_cons 65536 L i D hD
      obtain ⟨A, hA⟩ : ∃ A, dv 65536 (L.drop (i + 1)) = A := ⟨_, rfl⟩
      obtain ⟨Q, hQ⟩ : ∃ Q, dv 65536 (R.drop (i + 1)) = Q := ⟨_, rfl⟩
      have HIA := HI.out
      rw [hA, hQ] at HIA
      rw [hA] at hdr
      have HST := Lib.hid (SpP.start hDB HIA HRB.out)
      have HDR := Lib.hid (show dv 65536 (L.drop i) = A * 65536 + D by omega)
      have HQ := Lib.hid hQ
      have HC := Lib.hid hcell
      have HD := Lib.hid hD
      have HY0 := Lib.hid hy0
      have hDI : (D : Int) < 65536 := by omega
      have hDI0 : (0 : Int) ≤ (D : Int) := by omega
      have HDB := Lib.hid hDB
      have HZ0 := Lib.hid (show ∀ (j d : Nat), j < i → R[j]? = some d → d = 0 from fun j d hj hd => HZ.out j d (by omega) hd)
      clear hcell hD hy0 hdr hA hQ HIA hDB HI HZ HRB
      go_wp2
      go_loopw [7, 9] (fun s7 s9 wr => ∃ (k bit y r : Nat) (R' : List Nat), s9 = .int .i64 (bit : Int) ∧ bit = 2 ^ k / 2 ∧ k ≤ 16 ∧ R'.length = n ∧ dok 65536 R' ∧ R'[i]? = some y ∧ R'.drop (i + 1) = R.drop (i + 1) ∧ (∀ (j d : Nat), j < i → R'[j]? = some d → d = 0) ∧ SpP k (A * 65536 + D) (Q * 65536) B y r ∧ HV wr s7 r m ∧ Blk wr g 3 (hc R') ∧ Below w.heap.size w wr) (fun _ s9 _ => (intOf s9).toNat)
      case atStart => exact ⟨16, 32768, 0, r, R, rfl, by simp, Nat.le_refl _, HRL.out, HR.out, HY0.out, rfl, HZ0.out, HST.out, HV0.out, HK.out, HBW.out⟩
      case round =>
        obtain ⟨k', bit, y, r, R', rfl, hbit, hk16, hRl', hRd', hy', hdrop, hz', hp, hv', hk', hb'⟩ := hrel
        replace HRL := Lib.hid hRl'
        replace HR := Lib.hid hRd'
        have HY := Lib.hid hy'
        have HT := Lib.hid hdrop
        have HZ := Lib.hid hz'
        have HP := Lib.hid hp
        replace HV0 := Lib.hid hv'
        replace HK := Lib.hid hk'
        replace HBW := Lib.hid hb'
        clear hRl' hRd' hy' hdrop hz' hp hv' hk' hb' HST HY0 HZ0
        rcases Nat.eq_zero_or_pos k' with h0 | h0
        · subst h0
          obtain rfl : bit = 0 := by rw [hbit]
          clear hbit
          have HN := Lib.hid (show dv 65536 (L.drop i) = dv 65536 (R'.drop i) * B + r ∧ r < B from by
            obtain ⟨h1, h2, h3⟩ := HP.out.stop
            refine ⟨?_, h2⟩
            rw [HDR.out, h1, dv_drop_cons 65536 R' i y HY.out, HT.out, HQ.out, Nat.mul_comm 65536 Q, Nat.add_comm y])
          go_wp2
          go_roundw
          case rel => exact ⟨i, _, R', r, by first | rfl | go_num, rfl, by omega, HRL.out, HR.out, HZ.out, HN.out.1, HN.out.2, HV0.out, HK.out, HBW.out⟩
          case measure => simp only [intOf]; omega
        · obtain ⟨k, rfl⟩ : ∃ k, k' = k + 1 := ⟨k' - 1, by omega⟩
          obtain ⟨kk, hkk⟩ : ∃ kk, 2 ^ k * (2 * kk) = 65536 := ⟨2 ^ (15 - k), by
            rw [← Nat.pow_succ', ← Nat.pow_add, show k + (15 - k + 1) = 16 by omega]⟩
          have hbp : 0 < 2 ^ k := Nat.pow_pos (by decide)
          have hb2 : bit = 2 ^ k := by rw [hbit, Nat.pow_succ]; omega
          clear hbit h0
          have HX0 := digit_bit A D (2 ^ k) kk hbp hkk
          rw [← hb2] at hbp
          have HBE := Lib.hid hb2
          have hkp : 0 < kk := by
            rcases Nat.eq_zero_or_pos kk with h | h
            · subst h; omega
            · exact h
          have hbl16 : bit ≤ 65536 := by
            rw [hb2, ← hkk]
            exact Nat.le_mul_of_pos_right _ (by omega)
          rw [← hb2] at HX0
          obtain ⟨q, hq⟩ : ∃ q, D / bit = q := ⟨_, rfl⟩
          obtain ⟨x, hx⟩ : ∃ x, q % 2 = x := ⟨_, rfl⟩
          rw [hq, hx] at HX0
          have HX := Lib.hid (show (A * 65536 + D) / 2 ^ k % 2 = x by rw [← HBE.out]; exact HX0)
          have hbpI : (bit : Int) > 0 := by omega
          have hbpI2 : (0 : Int) < (bit : Int) := by omega
          have hbnz : ((bit : Int) == 0) = false := by simp; omega
          have hqt : (D : Int).tdiv (bit : Int) = (q : Int) := by rw [Int.tdiv_eq_ediv_of_nonneg (by omega), ← hq]; simp
          have hqe : (D : Int) / (bit : Int) = (q : Int) := by rw [← hq]; simp
          have hxt : (q : Int).tmod 2 = (x : Int) := by rw [Int.tmod_eq_emod_of_nonneg (by omega)]; omega
          have hxe : (q : Int) % 2 = (x : Int) := by omega
          obtain ⟨hf, hhf⟩ : ∃ h, bit / 2 = h := ⟨_, rfl⟩
          have hht : (bit : Int).tdiv 2 = (hf : Int) := by rw [Int.tdiv_eq_ediv_of_nonneg (by omega)]; omega
          have HHF := Lib.hid (show hf = 2 ^ k / 2 by rw [← hhf, hb2])
          have hhl : hf < bit := by omega
          have hqB : q < 65536 := by
            have h1 := HDB.out
            have h2 := Nat.div_le_self D bit
            omega
          have hqI : (q : Int) < 65536 := by omega
          have hx2 : x < 2 := by omega
          have hbI : (bit : Int) ≤ 65536 := by omega
          clear hb2 HX0 hq hx hkk hhf
          have CP := Lib.hid (plus_hv _ _ _ _ m wr HV0.out HV0.out (by omega))
          go_wp2_with fail
          refine CP.out.mono ?_
          rintro e w1 ⟨v1, rfl, hv1, hb1⟩
          rw [show r + r = 2 * r by omega] at hv1
          have HV1 := Lib.hid hv1
          replace HK := Lib.hid (HK.out.below hb1)
          replace HBW := Lib.hid (HBW.out.trans (hb1.mono HBW.out.size))
          have c0 := HC.out w1 HBW.out i D HD.out
          clear hv1 hb1 CP HV0
          rcases Nat.lt_or_ge x 1 with hx1 | hx1
          · obtain rfl : x = 0 := by omega
            have hxq : ((0 : Nat) : Int) = 0 := rfl
            have HV2 := Lib.hid (show HV w1 v1 (2 * r + 0) (m + 2) from HV1.out.mono (by omega))
            clear HV1
            have CO := Lib.hid (order_hv _ _ _ _ (m + 2) w1 HV2.out ((HVB.out.below HBW.out).mono (by omega)) (by omega))
            go_wp2_with fail
            refine CO.out.mono ?_
            rintro e w5 ⟨rfl, hb5⟩
            replace HV2 := Lib.hid (HV2.out.below hb5)
            replace HK := Lib.hid (HK.out.below hb5)
            replace HBW := Lib.hid (HBW.out.trans (hb5.mono HBW.out.size))
            clear hb5 CO c0 hDI hDI0 hqt hqe hxt hxe hqI hbI hbnz
            obtain ⟨sc, hsc⟩ : ∃ z, scmp (2 * r + 0) B = z := ⟨_, rfl⟩
            rw [hsc]
            unfold scmp at hsc
            rcases Nat.lt_or_ge (2 * r + 0) B with hlt | hlt
            · rw [if_pos hlt] at hsc
              have hge : ¬ sc ≥ 0 := by omega
              have hge2 : ¬ (0 : Int) ≤ sc := by omega
              have HP2 := Lib.hid (HP.out.zero HX.out hlt)
              replace HV2 := Lib.hid (HV2.out.fit HKM.out (by rw [HBM.out]; omega))
              rw [HML.out] at HV2
              clear hlt hsc
              go_wp2
              go_roundw
              case rel => exact ⟨k, hf, y, _, R', by first | rfl | go_num, HHF.out, by omega, HRL.out, HR.out, HY.out, HT.out, HZ.out, HP2.out, HV2.out, HK.out, HBW.out⟩
              case measure => simp only [intOf]; omega
            · have hge : sc ≥ 0 := by rw [← hsc, if_neg (by omega)]; split <;> omega
              have hge2 : (0 : Int) ≤ sc := hge
              have HP2 := Lib.hid (HP.out.one HX.out hlt)
              rw [← HBE.out] at HP2
              have CM := Lib.hid (minus_fr _ _ _ _ (m + 2) w5 HV2.out ((HVB.out.below HBW.out).mono (by omega)) (by omega) hlt)
              have HSB := Lib.hid (show 2 * r + 0 - B < B from HP2.out.2.2.1)
              clear hlt hsc
              go_wp2_with fail
              refine CM.out.mono ?_
              rintro e w6 ⟨v6, rfl, hv6, hf6, hb6⟩
              have hg5 := HK.out.lt
              have HV6 := Lib.hid (show HV w6 v6 (2 * r + 0 - B) m from by
                have h1 := hv6.fit HKM.out (by rw [HBM.out]; exact Nat.le_of_lt HSB.out)
                rw [HML.out] at h1
                exact h1)
              have HF6 := Lib.hid hf6
              replace HK := Lib.hid (HK.out.below hb6)
              replace HBW := Lib.hid (HBW.out.trans (hb6.mono HBW.out.size))
              clear hv6 hf6 hb6 CM HV2
              have c9 : w6.cell? ⟨g, i, none⟩ = some (.int .i64 (y : Int)) := (HK.out.cell _).trans (hc_get HY.out)
              have f9 : w6.frozen? ⟨g, i, none⟩ = false := Joins.unfrozen_of_block HK.out _
              have hyb : y + bit ≤ 65536 := by
                have h1 := HP2.out.2.2.2
                have h2 : 0 < 2 ^ k := Nat.pow_pos (by decide)
                omega
              have hy2I : (y : Int) + (bit : Int) = ((y + bit : Nat) : Int) := by omega
              obtain ⟨y2, hy2⟩ : ∃ z, y + bit = z := ⟨_, rfl⟩
              rw [hy2] at hy2I hyb HP2
              have hyI : (y : Int) ≤ 65536 := by omega
              have hy2B : y2 < 65536 := by
                have h1 := HP2.out.2.2.2
                have h2 : 0 < 2 ^ k := Nat.pow_pos (by decide)
                omega
              have HNX := Lib.hid (show (R'.set i y2).length = n ∧ dok 65536 (R'.set i y2) ∧ (R'.set i y2)[i]? = some y2 ∧ (R'.set i y2).drop (i + 1) = R.drop (i + 1) ∧ (∀ (j d : Nat), j < i → (R'.set i y2)[j]? = some d → d = 0) ∧ HV (w6.setCell ⟨g, i, none⟩ (.int .i64 (y2 : Int))) v6 (2 * r + 0 - B) m ∧ Blk (w6.setCell ⟨g, i, none⟩ (.int .i64 (y2 : Int))) g 3 (hc (R'.set i y2)) ∧ Below w.heap.size w (w6.setCell ⟨g, i, none⟩ (.int .i64 (y2 : Int))) from by
                refine ⟨by rw [List.length_set]; exact HRL.out, dok_set HR.out _ _ hy2B, ?_, ?_, fun j d hj hd => ?_, HV6.out.set HF6.out hg5, ?_, ?_⟩
                · rw [List.getElem?_set_self (by rw [HRL.out]; omega)]
                · rw [List.drop_set_of_lt (by omega)]; exact HT.out
                · rw [List.getElem?_set_ne (by omega)] at hd
                  exact HZ.out j d hj hd
                · rw [← hc_set]; exact (store_step HK.out i _).1
                · exact (store_step HK.out i _).2.2 _ _ HBW.out HGe.out)
              clear hy2
              go_wp2
              go_roundw
              case rel => exact ⟨k, hf, y2, _, R'.set i y2, by first | rfl | go_num, HHF.out, by omega, HNX.out.1, HNX.out.2.1, HNX.out.2.2.1, HNX.out.2.2.2.1, HNX.out.2.2.2.2.1, HP2.out, HNX.out.2.2.2.2.2.1, HNX.out.2.2.2.2.2.2.1, HNX.out.2.2.2.2.2.2.2⟩
              case measure => simp only [intOf]; omega
          · obtain rfl : x = 1 := by omega
            obtain ⟨W2, hW2⟩ : ∃ W, W = w1.alloc (.cells #[.int .i64 1] 3) := ⟨_, rfl⟩
            have hb2 : Below w1.heap.size w1 W2 := by rw [hW2]; exact (Below.refl _ _).alloc (Nat.le_refl _) _
            have CP := Lib.hid (plus_hv v1 (.slice (some ⟨w1.heap.size, 0, none⟩) 1 1) (2 * r) 1 (m + 1) W2 (HV1.out.below hb2) (show HV W2 _ 1 (m + 1) from by rw [hW2]; exact (hv_one w1 1 (by decide) (by decide)).mono (by omega)) (by omega))
            replace HK := Lib.hid (HK.out.below hb2)
            replace HBW := Lib.hid (HBW.out.trans (hb2.mono HBW.out.size))
            have HW2 := Lib.hid hW2
            clear hb2 HV1 hW2
            go_wp2_with fail
            rw [← HW2.out]
            refine CP.out.mono ?_
            rintro e w3 ⟨v2, rfl, hv2, hb3⟩
            have HV2 := Lib.hid (show HV w3 v2 (2 * r + 1) (m + 2) from hv2.mono (by omega))
            replace HK := Lib.hid (HK.out.below hb3)
            replace HBW := Lib.hid (HBW.out.trans (hb3.mono HBW.out.size))
            clear hv2 hb3 CP HW2
            have CO := Lib.hid (order_hv _ _ _ _ (m + 2) w3 HV2.out ((HVB.out.below HBW.out).mono (by omega)) (by omega))
            go_wp2_with fail
            refine CO.out.mono ?_
            rintro e w5 ⟨rfl, hb5⟩
            replace HV2 := Lib.hid (HV2.out.below hb5)
            replace HK := Lib.hid (HK.out.below hb5)
            replace HBW := Lib.hid (HBW.out.trans (hb5.mono HBW.out.size))
            clear hb5 CO c0 hDI hDI0 hqt hqe hxt hxe hqI hbI hbnz
            obtain ⟨sc, hsc⟩ : ∃ z, scmp (2 * r + 1) B = z := ⟨_, rfl⟩
            rw [hsc]
            unfold scmp at hsc
            rcases Nat.lt_or_ge (2 * r + 1) B with hlt | hlt
            · rw [if_pos hlt] at hsc
              have hge : ¬ sc ≥ 0 := by omega
              have hge2 : ¬ (0 : Int) ≤ sc := by omega
              have HP2 := Lib.hid (HP.out.zero HX.out hlt)
              replace HV2 := Lib.hid (HV2.out.fit HKM.out (by rw [HBM.out]; omega))
              rw [HML.out] at HV2
              clear hlt hsc
              go_wp2
              go_roundw
              case rel => exact ⟨k, hf, y, _, R', by first | rfl | go_num, HHF.out, by omega, HRL.out, HR.out, HY.out, HT.out, HZ.out, HP2.out, HV2.out, HK.out, HBW.out⟩
              case measure => simp only [intOf]; omega
            · have hge : sc ≥ 0 := by rw [← hsc, if_neg (by omega)]; split <;> omega
              have hge2 : (0 : Int) ≤ sc := hge
              have HP2 := Lib.hid (HP.out.one HX.out hlt)
              rw [← HBE.out] at HP2
              have CM := Lib.hid (minus_fr _ _ _ _ (m + 2) w5 HV2.out ((HVB.out.below HBW.out).mono (by omega)) (by omega) hlt)
              have HSB := Lib.hid (show 2 * r + 1 - B < B from HP2.out.2.2.1)
              clear hlt hsc
              go_wp2_with fail
              refine CM.out.mono ?_
              rintro e w6 ⟨v6, rfl, hv6, hf6, hb6⟩
              have hg5 := HK.out.lt
              have HV6 := Lib.hid (show HV w6 v6 (2 * r + 1 - B) m from by
                have h1 := hv6.fit HKM.out (by rw [HBM.out]; exact Nat.le_of_lt HSB.out)
                rw [HML.out] at h1
                exact h1)
              have HF6 := Lib.hid hf6
              replace HK := Lib.hid (HK.out.below hb6)
              replace HBW := Lib.hid (HBW.out.trans (hb6.mono HBW.out.size))
              clear hv6 hf6 hb6 CM HV2
              have c9 : w6.cell? ⟨g, i, none⟩ = some (.int .i64 (y : Int)) := (HK.out.cell _).trans (hc_get HY.out)
              have f9 : w6.frozen? ⟨g, i, none⟩ = false := Joins.unfrozen_of_block HK.out _
              have hyb : y + bit ≤ 65536 := by
                have h1 := HP2.out.2.2.2
                have h2 : 0 < 2 ^ k := Nat.pow_pos (by decide)
                omega
              have hy2I : (y : Int) + (bit : Int) = ((y + bit : Nat) : Int) := by omega
              obtain ⟨y2, hy2⟩ : ∃ z, y + bit = z := ⟨_, rfl⟩
              rw [hy2] at hy2I hyb HP2
              have hyI : (y : Int) ≤ 65536 := by omega
              have hy2B : y2 < 65536 := by
                have h1 := HP2.out.2.2.2
                have h2 : 0 < 2 ^ k := Nat.pow_pos (by decide)
                omega
              have HNX := Lib.hid (show (R'.set i y2).length = n ∧ dok 65536 (R'.set i y2) ∧ (R'.set i y2)[i]? = some y2 ∧ (R'.set i y2).drop (i + 1) = R.drop (i + 1) ∧ (∀ (j d : Nat), j < i → (R'.set i y2)[j]? = some d → d = 0) ∧ HV (w6.setCell ⟨g, i, none⟩ (.int .i64 (y2 : Int))) v6 (2 * r + 1 - B) m ∧ Blk (w6.setCell ⟨g, i, none⟩ (.int .i64 (y2 : Int))) g 3 (hc (R'.set i y2)) ∧ Below w.heap.size w (w6.setCell ⟨g, i, none⟩ (.int .i64 (y2 : Int))) from by
                refine ⟨by rw [List.length_set]; exact HRL.out, dok_set HR.out _ _ hy2B, ?_, ?_, fun j d hj hd => ?_, HV6.out.set HF6.out hg5, ?_, ?_⟩
                · rw [List.getElem?_set_self (by rw [HRL.out]; omega)]
                · rw [List.drop_set_of_lt (by omega)]; exact HT.out
                · rw [List.getElem?_set_ne (by omega)] at hd
                  exact HZ.out j d hj hd
                · rw [← hc_set]; exact (store_step HK.out i _).1
                · exact (store_step HK.out i _).2.2 _ _ HBW.out HGe.out)
              clear hy2
              go_wp2
              go_roundw
              case rel => exact ⟨k, hf, y2, _, R'.set i y2, by first | rfl | go_num, HHF.out, by omega, HNX.out.1, HNX.out.2.1, HNX.out.2.2.1, HNX.out.2.2.2.1, HNX.out.2.2.2.2.1, HP2.out, HNX.out.2.2.2.2.2.1, HNX.out.2.2.2.2.2.2.1, HNX.out.2.2.2.2.2.2.2⟩
              case measure => simp only [intOf]; omega

/- Brd -/

theorem split_hv (v1 v2 : Value) (x y N : Nat) (w : World) (h : HV w v1 x N) (h2 : HV w v2 y N) (hy : 0 < y) (hN : N ≤ 20000) : Calls Try.prog 73 #[v1, v2] w fun e w' => ∃ vq vr, e = .returned (.tuple #[vq, vr]) ∧ HV w' vq (x / y) N ∧ HV w' vr (x % y) N ∧ Below w.heap.size w w' := by
  obtain ⟨A, n, c, L, rfl, hg, hs, hn, hv, hnN⟩ := h
  obtain ⟨A2, n2, c2, L2, rfl, hg2, hs2, hn2, hv2, hnN2⟩ := h2
  refine (split_any A n c L A2 n2 c2 L2 w hg hg2 hs2 hn2 (by rw [hv2]; exact hy) (by omega) (by omega)).mono ?_
  rintro e w' ⟨vq, vr, rfl, h1, h2, hb⟩
  rw [hv, hv2] at h1 h2
  exact ⟨vq, vr, rfl, h1.mono hnN, h2.mono hnN2, hb⟩
theorem sgn_sign (s : Bool) (k : Nat) (h : k ≠ 0) : (sgn s k).sign = if s = true then -1 else 1 := by
  have h1 := Int.sign_natCast_of_ne_zero h
  cases s <;> simp [sgn, Int.sign_neg, h1]
theorem sgn_two {s t : Bool} (h : s ≠ t) : (if s = true then (-1 : Int) else 1) ≠ 0 ∧ (if s = true then (-1 : Int) else 1) ≠ (if t = true then (-1 : Int) else 1) := by
  cases s <;> cases t <;> first | exact absurd rfl h | decide
def rgS (sr t2 : Int) (bb : Bool) (i : Nat) (v : Value) (_ : World) : Prop :=
  match i with
  | 5 => v = .int .i64 sr
  | 7 => v = .int .i64 t2
  | 8 => v = .bool bb
  | 9 => v = .bool bb
  | _ => True
def rdS (B : Nat) (q r : Int) (K : Nat) (i : Nat) (v : Value) (W : World) : Prop :=
  match i with
  | 1 => NB W B v 1 6
  | 2 => NB W B v q K
  | 5 => NB W B v r K
  | _ => True
theorem rdS_mono (B : Nat) (q r : Int) (K : Nat) (i : Nat) (v : Value) (W W' : World) (h : rdS B q r K i v W) (hb : Below W.heap.size W W') : rdS B q r K i v W' := by
  unfold rdS at h ⊢
  split at h <;> first | exact h.below hb | trivial
set_option maxRecDepth 100000 in
set_option maxHeartbeats 4000000 in
theorem RDivFloor_any (a b : Value) (z1 z2 : Int) (N : Nat) (w : World) (ha : BG w a z1 N) (hb : BG w b z2 N) (hN : N ≤ 4000) (hz : z2 ≠ 0) : Calls Try.prog 54 #[a, b] w (DFPost w z1 z2 (8 * N + 28)) := by
  obtain ⟨na, A, n, c, D, rfl, hd1, hs1, hn1, hz1⟩ := ha
  obtain ⟨nb, A2, m, c2, E, rfl, hd2, hs2, hn2, hz2⟩ := hb
  obtain ⟨W0, hW0⟩ : ∃ W, W = (((w.alloc (.cells #[.bool na, .slice A n c] 37)).alloc (.cells #[.bool nb, .slice A2 m c2] 37)).alloc (.cells #[.bool false, .slice none 0 0] 37)).alloc (.cells #[.bool false, .slice none 0 0] 37) := ⟨_, rfl⟩
  have HB := Lib.hid (show Below w.heap.size w W0 by rw [hW0]; exact ((((Below.refl _ w).alloc (Nat.le_refl _) _).alloc (by simp) _).alloc (by simp; omega) _).alloc (by simp; omega) _)
  have K2 := Lib.hid (show Blk W0 w.heap.size 37 #[.bool na, .slice A n c] by rw [hW0]; exact (((Blk.new _ _ _).alloc _).alloc _).alloc _)
  have K3 := Lib.hid (show Blk W0 (w.heap.size + 1) 37 #[.bool nb, .slice A2 m c2] by rw [hW0]; exact ((Blk.new_ (by simp) rfl : Blk ((w.alloc _).alloc _) _ _ _).alloc _).alloc _)
  have K4 := Lib.hid (show Blk W0 (w.heap.size + 1 + 1) 37 #[.bool false, .slice none 0 0] by rw [hW0]; exact (Blk.new_ (by simp) rfl : Blk (((w.alloc _).alloc _).alloc _) _ _ _).alloc _)
  have K5 := Lib.hid (show Blk W0 (w.heap.size + 1 + 1 + 1) 37 #[.bool false, .slice none 0 0] by rw [hW0]; exact Blk.new_ (by simp) rfl)
  have GX := Lib.hid (show BG W0 (.agg #[.bool na, .slice A n c]) z1 N from BG.below ⟨na, A, n, c, D, rfl, hd1, hs1, hn1, hz1⟩ HB.out)
  have GY := Lib.hid (show BG W0 (.agg #[.bool nb, .slice A2 m c2]) z2 N from BG.below ⟨nb, A2, m, c2, E, rfl, hd2, hs2, hn2, hz2⟩ HB.out)
  have HZ1 := Lib.hid (sgn_self hz1)
  have HZ2 := Lib.hid (sgn_self hz2)
  have HY0 := Lib.hid (show 0 < z2.natAbs by omega)
  obtain ⟨t2, ht2⟩ : ∃ t, z2.sign = t := ⟨_, rfl⟩
  have ht20 : (t2 == 0) = false := by rw [← ht2]; simpa using hz
  have HT2 := Lib.hid ht2
  have CS := Lib.hid (RSign_any _ z2 N W0 GY.out (by omega))
  rw [ht2] at CS
  clear hd1 hs1 hn1 hz1 hd2 hs2 hn2 hz2 hz ht2
  have K2_0 : W0.cell? ⟨w.heap.size, 0, none⟩ = some (.bool na) := K2.out.cell 0
  have K2_1 : W0.cell? ⟨w.heap.size, 1, none⟩ = some (.slice A n c) := K2.out.cell 1
  have K3_0 : W0.cell? ⟨w.heap.size + 1, 0, none⟩ = some (.bool nb) := K3.out.cell 0
  have K3_1 : W0.cell? ⟨w.heap.size + 1, 1, none⟩ = some (.slice A2 m c2) := K3.out.cell 1
  go_enter Try.func54, Try.ntmps54
  go_upto_region 1 with fail
  rw [← hW0]
  clear hW0
  go_wp2_with fail
  refine CS.out.mono ?_
  rintro e w1 ⟨rfl, hb⟩
  replace K2 := Lib.hid (K2.out.below hb)
  replace K3 := Lib.hid (K3.out.below hb)
  replace K4 := Lib.hid (K4.out.below hb)
  replace K5 := Lib.hid (K5.out.below hb)
  replace GX := Lib.hid (GX.out.below hb)
  replace GY := Lib.hid (GY.out.below hb)
  have HB1 := Lib.hid (HB.out.trans (hb.mono HB.out.size))
  clear hb CS K2_0 K2_1 K3_0 K3_1
  have K2_0 : w1.cell? ⟨w.heap.size, 0, none⟩ = some (.bool na) := K2.out.cell 0
  have K2_1 : w1.cell? ⟨w.heap.size, 1, none⟩ = some (.slice A n c) := K2.out.cell 1
  have K3_0 : w1.cell? ⟨w.heap.size + 1, 0, none⟩ = some (.bool nb) := K3.out.cell 0
  have K3_1 : w1.cell? ⟨w.heap.size + 1, 1, none⟩ = some (.slice A2 m c2) := K3.out.cell 1
  go_upto_region 3 with fail
  have hy0 : Below w1.heap.size w1 w1.drew := below_drew (Below.refl _ _)
  refine wp_region_mix 9 (fun w' => Below w1.heap.size w1 w') (by kernel_rfl) (by decide) ?_
  generalize w1.drew = y0 at hy0 ⊢
  refine wpM_take (i := 0) (oi := ⟨some 17, _, _, _, _, _⟩) (v := ?_) rfl (by decide +kernel) (by decide +kernel) (by decide +kernel) (fun _ _ _ h => h) (Or.inl ⟨by rfl, ?_⟩) hy0 ?_
  case refine_2 =>
    intro w' hSw
    have K2_0' := keepcell hSw K2_0
    have K2_1' := keepcell hSw K2_1
    have K3_0' := keepcell hSw K3_0
    have K3_1' := keepcell hSw K3_1
    go_simp
    try (with_reducible rfl)
  try simp only [Act.put, List.setIfInBounds_toArray, List.set_cons_zero, List.set_cons_succ]
  refine wpM_take (i := 2) (oi := ⟨some 19, _, _, _, _, _⟩) (v := ?_) rfl (by decide +kernel) (by decide +kernel) (by decide +kernel) (fun _ _ _ h => h) (Or.inl ⟨by rfl, ?_⟩) hy0 ?_
  case refine_2 =>
    intro w' hSw
    have K2_0' := keepcell hSw K2_0
    have K2_1' := keepcell hSw K2_1
    have K3_0' := keepcell hSw K3_0
    have K3_1' := keepcell hSw K3_1
    go_simp
    try (with_reducible rfl)
  try simp only [Act.put, List.setIfInBounds_toArray, List.set_cons_zero, List.set_cons_succ]
  refine wpM_step (i := 1) (o := ⟨some 18, _, _, _, _, _⟩) rfl (by decide +kernel) (by decide) (fun K hK => ?_)
  go_simp
  refine (halves_any _ z1 N y0 (GX.out.below hy0) (by omega)).mono ?_
  rintro e y1 ⟨v1, rfl, hv, hc⟩
  have hy1 : Below w1.heap.size w1 y1 := hy0.trans (hc.mono hy0.size)
  have H1 := Lib.hid hv
  clear hv
  clear hc
  refine hK.out _ _ hy1 ?_
  clear hK K
  try simp only [Act.put, List.setIfInBounds_toArray, List.set_cons_zero, List.set_cons_succ]
  refine wpM_step (i := 3) (o := ⟨some 20, _, _, _, _, _⟩) rfl (by decide +kernel) (by decide) (fun K hK => ?_)
  go_simp
  refine (halves_any _ z2 N y1 (GY.out.below hy1) (by omega)).mono ?_
  rintro e y2 ⟨v2, rfl, hv, hc⟩
  have hy2 : Below w1.heap.size w1 y2 := hy1.trans (hc.mono hy1.size)
  have H2 := Lib.hid hv
  replace H1 := Lib.hid (H1.out.below hc)
  clear hv
  clear hc
  refine hK.out _ _ hy2 ?_
  clear hK K
  try simp only [Act.put, List.setIfInBounds_toArray, List.set_cons_zero, List.set_cons_succ]
  refine wpM_step (i := 4) (o := ⟨some 21, _, _, _, _, _⟩) rfl (by decide +kernel) (by decide) (fun K hK => ?_)
  go_simp
  refine (split_hv v1 v2 _ _ (2 * N) y2 H1.out H2.out HY0.out (by omega)).mono ?_
  rintro e y3 ⟨vq, vr, rfl, hvq, hvr, hc⟩
  have hy3 : Below w1.heap.size w1 y3 := hy2.trans (hc.mono hy2.size)
  have HQ0 := Lib.hid hvq
  have HR0 := Lib.hid hvr
  clear hvq hvr H1 H2
  clear hc
  refine hK.out _ _ hy3 ?_
  clear hK K
  try simp only [Act.put, List.setIfInBounds_toArray, List.set_cons_zero, List.set_cons_succ]
  refine wpM_take (i := 5) (oi := ⟨some 16, _, _, _, _, _⟩) (v := ?_) rfl (by decide +kernel) (by decide +kernel) (by decide +kernel) (fun _ _ _ h => h) (Or.inl ⟨by rfl, ?_⟩) hy3 ?_
  case refine_2 =>
    intro w' hSw
    have K2_0' := keepcell hSw K2_0
    have K2_1' := keepcell hSw K2_1
    have K3_0' := keepcell hSw K3_0
    have K3_1' := keepcell hSw K3_1
    go_simp
    try (with_reducible rfl)
  try simp only [Act.put, List.setIfInBounds_toArray, List.set_cons_zero, List.set_cons_succ]
  refine wpM_take (i := 6) (oi := ⟨some 22, _, _, _, _, _⟩) (v := ?_) rfl (by decide +kernel) (by decide +kernel) (by decide +kernel) (fun _ _ _ h => h) (Or.inl ⟨by rfl, ?_⟩) hy3 ?_
  case refine_2 =>
    intro w' hSw
    have K2_0' := keepcell hSw K2_0
    have K2_1' := keepcell hSw K2_1
    have K3_0' := keepcell hSw K3_0
    have K3_1' := keepcell hSw K3_1
    go_simp
    try (with_reducible rfl)
  try simp only [Act.put, List.setIfInBounds_toArray, List.set_cons_zero, List.set_cons_succ]
  refine wpM_take (i := 7) (oi := ⟨some 23, _, _, _, _, _⟩) (v := ?_) rfl (by decide +kernel) (by decide +kernel) (by decide +kernel) (fun _ _ _ h => h) (Or.inl ⟨by rfl, ?_⟩) hy3 ?_
  case refine_2 =>
    intro w' hSw
    have K2_0' := keepcell hSw K2_0
    have K2_1' := keepcell hSw K2_1
    have K3_0' := keepcell hSw K3_0
    have K3_1' := keepcell hSw K3_1
    go_simp
    try (with_reducible rfl)
  try simp only [Act.put, List.setIfInBounds_toArray, List.set_cons_zero, List.set_cons_succ]
  refine wpM_take (i := 8) (oi := ⟨some 7, _, _, _, _, _⟩) (v := ?_) rfl (by decide +kernel) (by decide +kernel) (by decide +kernel) (fun _ _ _ h => h) (Or.inl ⟨by rfl, ?_⟩) hy3 ?_
  case refine_2 =>
    intro w' hSw
    have K2_0' := keepcell hSw K2_0
    have K2_1' := keepcell hSw K2_1
    have K3_0' := keepcell hSw K3_0
    have K3_1' := keepcell hSw K3_1
    go_simp
    try (with_reducible rfl)
  try simp only [Act.put, List.setIfInBounds_toArray, List.set_cons_zero, List.set_cons_succ]
  refine wpM_done (by decide +kernel) ?_
  simp only [List.drop_succ_cons, List.drop_zero]
  replace K2 := Lib.hid (K2.out.below hy3)
  replace K3 := Lib.hid (K3.out.below hy3)
  replace K4 := Lib.hid (K4.out.below hy3)
  replace K5 := Lib.hid (K5.out.below hy3)
  replace GX := Lib.hid (GX.out.below hy3)
  replace GY := Lib.hid (GY.out.below hy3)
  have HB3 := Lib.hid (HB1.out.trans (hy3.mono HB1.out.size))
  clear hy0 hy1 hy2 hy3 HB1 K2_0 K2_1 K3_0 K3_1
  obtain ⟨w3, hw3⟩ : ∃ V, V = y3 := ⟨_, rfl⟩
  rw [← hw3] at K2 K3 K4 K5 GX GY HB3 HQ0 HR0 ⊢
  clear hw3
  obtain ⟨Q, hQ⟩ : ∃ Q, z1.natAbs / z2.natAbs = Q := ⟨_, rfl⟩
  obtain ⟨R, hR⟩ : ∃ R, z1.natAbs % z2.natAbs = R := ⟨_, rfl⟩
  have HVD := Lib.hid (show z1.natAbs = Q * z2.natAbs + R by rw [← hQ, ← hR, Nat.mul_comm]; exact (Nat.div_add_mod _ _).symm)
  have HVR := Lib.hid (show R < z2.natAbs by rw [← hR]; exact Nat.mod_lt _ HY0.out)
  rw [hQ] at HQ0
  rw [hR] at HR0
  clear hQ hR
  have K2_0 : w3.cell? ⟨w.heap.size, 0, none⟩ = some (.bool na) := K2.out.cell 0
  have K2_1 : w3.cell? ⟨w.heap.size, 1, none⟩ = some (.slice A n c) := K2.out.cell 1
  have K3_0 : w3.cell? ⟨w.heap.size + 1, 0, none⟩ = some (.bool nb) := K3.out.cell 0
  have K3_1 : w3.cell? ⟨w.heap.size + 1, 1, none⟩ = some (.slice A2 m c2) := K3.out.cell 1
  have CS := Lib.hid (big_hv (na != nb) vq Q (2 * N) w3 HQ0.out (by omega))
  go_wp2_with fail
  refine CS.out.mono ?_
  rintro e w4 ⟨v, rfl, hv, hb⟩
  have HVQ := Lib.hid (hv.mono HB3.out.size (Nat.le_refl _))
  replace K2 := Lib.hid (K2.out.below hb)
  replace K3 := Lib.hid (K3.out.below hb)
  replace K4 := Lib.hid (K4.out.below hb)
  replace K5 := Lib.hid (K5.out.below hb)
  replace GX := Lib.hid (GX.out.below hb)
  replace GY := Lib.hid (GY.out.below hb)
  replace HR0 := Lib.hid (HR0.out.below hb)
  have HB4 := Lib.hid (HB3.out.trans (hb.mono HB3.out.size))
  clear hb hv K2_0 K2_1 K3_0 K3_1 CS
  obtain ⟨zq, hzq⟩ : ∃ z, sgn (na != nb) Q = z := ⟨_, rfl⟩
  rw [hzq] at HVQ
  have HZQ := Lib.hid hzq
  clear hzq
  obtain ⟨Aq2, nq2, cq2, Dq2, hevq2, hoq2, hsq2, hnq2, hvq2, hNq2⟩ := HVQ.out
  obtain ⟨sbq, hsbq⟩ : ∃ b, b = decide (zq < 0) := ⟨_, rfl⟩
  rw [← hsbq] at hevq2
  subst hevq2
  have HSBq2 := Lib.hid hsbq
  clear hsbq
  obtain ⟨W5, hW5⟩ : ∃ W, W = w4.alloc (.cells #[.bool sbq, .slice Aq2 nq2 cq2] 37) := ⟨_, rfl⟩
  obtain ⟨gq, hgq⟩ : ∃ g, w4.heap.size = g := ⟨_, rfl⟩
  have hal := (Below.refl w4.heap.size w4).alloc (Nat.le_refl _) (.cells #[.bool sbq, .slice Aq2 nq2 cq2] 37)
  rw [← hW5] at hal
  have KQ := Lib.hid (show Blk W5 gq 37 #[.bool sbq, .slice Aq2 nq2 cq2] by rw [hW5, ← hgq]; exact Blk.new _ _ _)
  have HGQ := Lib.hid (show w.heap.size + 4 ≤ gq by rw [← hgq]; exact (K5.out.lt : _ < _))
  have HNQ := Lib.hid (show NB W5 w.heap.size (.agg #[.bool sbq, .slice Aq2 nq2 cq2]) zq (2 * N + 1) from NB.below ⟨Aq2, nq2, cq2, Dq2, by rw [HSBq2.out], hoq2, hsq2, hnq2, hvq2, by omega⟩ hal)
  replace K2 := Lib.hid (K2.out.below hal)
  replace K3 := Lib.hid (K3.out.below hal)
  replace K4 := Lib.hid (K4.out.below hal)
  replace K5 := Lib.hid (K5.out.below hal)
  replace GX := Lib.hid (GX.out.below hal)
  replace GY := Lib.hid (GY.out.below hal)
  replace HR0 := Lib.hid (HR0.out.below hal)
  have HB5 := Lib.hid (HB4.out.trans (hal.mono HB4.out.size))
  have CS := Lib.hid (big_hv na vr R (2 * N) W5 HR0.out (by omega))
  clear hal hoq2 hsq2 hnq2 hvq2 hNq2
  have K2_0 : W5.cell? ⟨w.heap.size, 0, none⟩ = some (.bool na) := K2.out.cell 0
  have K2_1 : W5.cell? ⟨w.heap.size, 1, none⟩ = some (.slice A n c) := K2.out.cell 1
  have K3_0 : W5.cell? ⟨w.heap.size + 1, 0, none⟩ = some (.bool nb) := K3.out.cell 0
  have K3_1 : W5.cell? ⟨w.heap.size + 1, 1, none⟩ = some (.slice A2 m c2) := K3.out.cell 1
  rw [hW5] at K2_0 K2_1 K3_0 K3_1
  go_wp2_with fail
  rw [← hW5]
  clear hW5 hgq
  refine CS.out.mono ?_
  rintro e w6 ⟨v, rfl, hv, hb⟩
  have HVR2 := Lib.hid (hv.mono HB5.out.size (Nat.le_refl _))
  replace K2 := Lib.hid (K2.out.below hb)
  replace K3 := Lib.hid (K3.out.below hb)
  replace K4 := Lib.hid (K4.out.below hb)
  replace K5 := Lib.hid (K5.out.below hb)
  replace GX := Lib.hid (GX.out.below hb)
  replace GY := Lib.hid (GY.out.below hb)
  replace KQ := Lib.hid (KQ.out.below hb)
  replace HNQ := Lib.hid (HNQ.out.below hb)
  have HB6 := Lib.hid (HB5.out.trans (hb.mono HB5.out.size))
  clear hb hv K2_0 K2_1 K3_0 K3_1 CS HR0
  obtain ⟨zr, hzr⟩ : ∃ z, sgn na R = z := ⟨_, rfl⟩
  rw [hzr] at HVR2
  have HZR := Lib.hid hzr
  clear hzr
  obtain ⟨Ar2, nr2, cr2, Dr2, hevr2, hor2, hsr2, hnr2, hvr2, hNr2⟩ := HVR2.out
  obtain ⟨sbr2, hsbr2⟩ : ∃ b, b = decide (zr < 0) := ⟨_, rfl⟩
  rw [← hsbr2] at hevr2
  subst hevr2
  have HSBr2 := Lib.hid hsbr2
  clear hsbr2
  obtain ⟨W7, hW7⟩ : ∃ W, W = w6.alloc (.cells #[.bool sbr2, .slice Ar2 nr2 cr2] 37) := ⟨_, rfl⟩
  obtain ⟨gr, hgr⟩ : ∃ g, w6.heap.size = g := ⟨_, rfl⟩
  have hal := (Below.refl w6.heap.size w6).alloc (Nat.le_refl _) (.cells #[.bool sbr2, .slice Ar2 nr2 cr2] 37)
  rw [← hW7] at hal
  have KR := Lib.hid (show Blk W7 gr 37 #[.bool sbr2, .slice Ar2 nr2 cr2] by rw [hW7, ← hgr]; exact Blk.new _ _ _)
  have HGR := Lib.hid (show gq < gr by rw [← hgr]; exact KQ.out.lt)
  have HNR := Lib.hid (show NB W7 w.heap.size (.agg #[.bool sbr2, .slice Ar2 nr2 cr2]) zr (2 * N + 1) from NB.below ⟨Ar2, nr2, cr2, Dr2, by rw [HSBr2.out], hor2, hsr2, hnr2, hvr2, by omega⟩ hal)
  replace K2 := Lib.hid (K2.out.below hal)
  replace K3 := Lib.hid (K3.out.below hal)
  replace K4 := Lib.hid (K4.out.below hal)
  replace K5 := Lib.hid (K5.out.below hal)
  replace GX := Lib.hid (GX.out.below hal)
  replace GY := Lib.hid (GY.out.below hal)
  replace KQ := Lib.hid (KQ.out.below hal)
  replace HNQ := Lib.hid (HNQ.out.below hal)
  have HB7 := Lib.hid (HB6.out.trans (hal.mono HB6.out.size))
  clear hal hor2 hsr2 hnr2 hvr2 hNr2
  obtain ⟨sr, hsr⟩ : ∃ t, zr.sign = t := ⟨_, rfl⟩
  have HSR := Lib.hid hsr
  have CSR : Hid (∀ W, Below W7.heap.size W7 W → Calls Try.prog 40 #[.agg #[.bool sbr2, .slice Ar2 nr2 cr2]] W fun e w' => e = .returned (.int .i64 sr) ∧ Below W.heap.size W w') := Lib.hid (fun W hW => by rw [← HSR.out]; exact RSign_any _ zr (2 * N + 1) W (HNR.out.below hW).bg (by omega))
  have CSY : Hid (∀ W, Below W7.heap.size W7 W → Calls Try.prog 40 #[.agg #[.bool nb, .slice A2 m c2]] W fun e w' => e = .returned (.int .i64 t2) ∧ Below W.heap.size W w') := Lib.hid (fun W hW => by rw [← HT2.out]; exact RSign_any _ z2 N W (GY.out.below hW) (by omega))
  clear hsr
  have K2_0 : W7.cell? ⟨w.heap.size, 0, none⟩ = some (.bool na) := K2.out.cell 0
  have K2_1 : W7.cell? ⟨w.heap.size, 1, none⟩ = some (.slice A n c) := K2.out.cell 1
  have K3_0 : W7.cell? ⟨w.heap.size + 1, 0, none⟩ = some (.bool nb) := K3.out.cell 0
  have K3_1 : W7.cell? ⟨w.heap.size + 1, 1, none⟩ = some (.slice A2 m c2) := K3.out.cell 1
  have KR_0 : W7.cell? ⟨gr, 0, none⟩ = some (.bool sbr2) := KR.out.cell 0
  have KR_1 : W7.cell? ⟨gr, 1, none⟩ = some (.slice Ar2 nr2 cr2) := KR.out.cell 1
  have KQ_0 : W7.cell? ⟨gq, 0, none⟩ = some (.bool sbq) := KQ.out.cell 0
  have KQ_1 : W7.cell? ⟨gq, 1, none⟩ = some (.slice Aq2 nq2 cq2) := KQ.out.cell 1
  go_upto_region 6 with fail
  rw [← hW7]
  clear hW7 hgr
  by_cases hR0 : R = 0
  · have HQR := Lib.hid (show QR z1 z2 zq zr from by
      have h2 := HZQ.out
      have h4 := HZR.out
      have h5 := HVD.out
      rw [hR0, sgn_zero] at h4
      rw [hR0] at h5
      rw [← h4]
      by_cases hnn : na = nb
      · subst hnn
        have h1 := qr_same (s := na) h5 HY0.out
        rw [HZ1.out, HZ2.out, sgn_zero] at h1
        simp [sgn] at h2
        rwa [h2] at h1
      · have h1 := qr_zero h5 HY0.out hnn
        rw [show (na != nb) = true from by simpa using hnn] at h2
        simp only [sgn, if_pos] at h2
        rw [HZ1.out, HZ2.out, h2] at h1
        exact h1)
    obtain rfl : sr = 0 := by rw [← HSR.out, ← HZR.out, hR0, sgn_zero]; rfl
    have hx0 : Below W7.heap.size W7 W7.drew := below_drew (Below.refl _ _)
    refine wp_region_mix 9 (fun w' => Below W7.heap.size W7 w') (by kernel_rfl) (by decide) ?_
    generalize W7.drew = x0 at hx0 ⊢
    refine wpM_take (i := 0) (oi := ⟨some 35, _, _, _, _, _⟩) (v := ?_) rfl (by decide +kernel) (by decide +kernel) (by decide +kernel) (fun _ _ _ h => h) (Or.inl ⟨by rfl, ?_⟩) hx0 ?_
    case refine_2 =>
      intro w' hSw
      have KR_0' := keepcell hSw KR_0
      have KR_1' := keepcell hSw KR_1
      have K3_0' := keepcell hSw K3_0
      have K3_1' := keepcell hSw K3_1
      go_simp
      try (with_reducible rfl)
    try simp only [Act.put, List.setIfInBounds_toArray, List.set_cons_zero, List.set_cons_succ]
    refine wpM_step (i := 1) (o := ⟨some 36, _, _, _, _, _⟩) rfl (by decide +kernel) (by decide) (fun K hK => ?_)
    go_simp
    refine (CSR.out x0 hx0).mono ?_
    rintro e x1 ⟨rfl, hc⟩
    have hx1 : Below W7.heap.size W7 x1 := hx0.trans (hc.mono hx0.size)
    clear hc
    refine hK.out _ _ hx1 ?_
    clear hK K
    try simp only [Act.put, List.setIfInBounds_toArray, List.set_cons_zero, List.set_cons_succ]
    refine wpM_take (i := 2) (oi := ⟨some 37, _, _, _, _, _⟩) (v := ?_) rfl (by decide +kernel) (by decide +kernel) (by decide +kernel) (fun _ _ _ h => h) (Or.inl ⟨by rfl, ?_⟩) hx1 ?_
    case refine_2 =>
      intro w' hSw
      have KR_0' := keepcell hSw KR_0
      have KR_1' := keepcell hSw KR_1
      have K3_0' := keepcell hSw K3_0
      have K3_1' := keepcell hSw K3_1
      go_simp
      try (with_reducible rfl)
    try simp only [Act.put, List.setIfInBounds_toArray, List.set_cons_zero, List.set_cons_succ]
    refine wpM_take (i := 3) (oi := ⟨some 38, _, _, _, _, _⟩) (v := ?_) rfl (by decide +kernel) (by decide +kernel) (by decide +kernel) (fun _ _ _ h => h) (Or.inl ⟨by rfl, ?_⟩) hx1 ?_
    case refine_2 =>
      intro w' hSw
      have KR_0' := keepcell hSw KR_0
      have KR_1' := keepcell hSw KR_1
      have K3_0' := keepcell hSw K3_0
      have K3_1' := keepcell hSw K3_1
      go_simp
      try (with_reducible rfl)
    try simp only [Act.put, List.setIfInBounds_toArray, List.set_cons_zero, List.set_cons_succ]
    refine wpM_take (i := 4) (oi := ⟨some 39, _, _, _, _, _⟩) (v := undef) rfl (by decide +kernel) (by decide +kernel) (by decide +kernel) (fun _ _ _ h => h) (Or.inr ⟨by rfl, rfl⟩) hx1 ?_
    try simp only [Act.put, List.setIfInBounds_toArray, List.set_cons_zero, List.set_cons_succ]
    refine wpM_take (i := 5) (oi := ⟨some 40, _, _, _, _, _⟩) (v := undef) rfl (by decide +kernel) (by decide +kernel) (by decide +kernel) (fun _ _ _ h => h) (Or.inr ⟨by rfl, rfl⟩) hx1 ?_
    try simp only [Act.put, List.setIfInBounds_toArray, List.set_cons_zero, List.set_cons_succ]
    refine wpM_take (i := 6) (oi := ⟨some 41, _, _, _, _, _⟩) (v := undef) rfl (by decide +kernel) (by decide +kernel) (by decide +kernel) (fun _ _ _ h => h) (Or.inr ⟨by rfl, rfl⟩) hx1 ?_
    try simp only [Act.put, List.setIfInBounds_toArray, List.set_cons_zero, List.set_cons_succ]
    refine wpM_take (i := 7) (oi := ⟨some 42, _, _, _, _, _⟩) (v := undef) rfl (by decide +kernel) (by decide +kernel) (by decide +kernel) (fun _ _ _ h => h) (Or.inr ⟨by rfl, rfl⟩) hx1 ?_
    try simp only [Act.put, List.setIfInBounds_toArray, List.set_cons_zero, List.set_cons_succ]
    refine wpM_take (i := 8) (oi := ⟨some 43, _, _, _, _, _⟩) (v := undef) rfl (by decide +kernel) (by decide +kernel) (by decide +kernel) (fun _ _ _ h => h) (Or.inr ⟨by rfl, rfl⟩) hx1 ?_
    try simp only [Act.put, List.setIfInBounds_toArray, List.set_cons_zero, List.set_cons_succ]
    refine wpM_done (by decide +kernel) ?_
    simp only [List.drop_succ_cons, List.drop_zero]
    replace K2 := Lib.hid (K2.out.below hx1)
    replace K3 := Lib.hid (K3.out.below hx1)
    replace K4 := Lib.hid (K4.out.below hx1)
    replace K5 := Lib.hid (K5.out.below hx1)
    replace GX := Lib.hid (GX.out.below hx1)
    replace GY := Lib.hid (GY.out.below hx1)
    replace KQ := Lib.hid (KQ.out.below hx1)
    replace KR := Lib.hid (KR.out.below hx1)
    replace HNQ := Lib.hid (HNQ.out.below hx1)
    replace HNR := Lib.hid (HNR.out.below hx1)
    have HB8 := Lib.hid (HB7.out.trans (hx1.mono HB7.out.size))
    clear K2_0 K2_1 K3_0 K3_1 KR_0 KR_1 KQ_0 KQ_1 CSR CSY
    obtain ⟨w8, hw8⟩ : ∃ V, V = x1 := ⟨_, rfl⟩
    rw [← hw8] at K2 K3 K4 K5 GX GY KQ KR HNQ HNR HB8 ⊢
    clear hw8
    clear HB7
    have HB7 := HB8
    have K2_0 : w8.cell? ⟨w.heap.size, 0, none⟩ = some (.bool na) := K2.out.cell 0
    have K2_1 : w8.cell? ⟨w.heap.size, 1, none⟩ = some (.slice A n c) := K2.out.cell 1
    have K3_0 : w8.cell? ⟨w.heap.size + 1, 0, none⟩ = some (.bool nb) := K3.out.cell 0
    have K3_1 : w8.cell? ⟨w.heap.size + 1, 1, none⟩ = some (.slice A2 m c2) := K3.out.cell 1
    have KR_0 : w8.cell? ⟨gr, 0, none⟩ = some (.bool sbr2) := KR.out.cell 0
    have KR_1 : w8.cell? ⟨gr, 1, none⟩ = some (.slice Ar2 nr2 cr2) := KR.out.cell 1
    have KQ_0 : w8.cell? ⟨gq, 0, none⟩ = some (.bool sbq) := KQ.out.cell 0
    have KQ_1 : w8.cell? ⟨gq, 1, none⟩ = some (.slice Aq2 nq2 cq2) := KQ.out.cell 1
    go_upto_region 8 with fail
    have F4 : ∀ j, w8.frozen? ⟨w.heap.size + 1 + 1, j, none⟩ = false := fun j => Joins.unfrozen_of_block K4.out _
    have K4_0 : w8.cell? ⟨w.heap.size + 1 + 1, 0, none⟩ = some (.bool false) := K4.out.cell 0
    have K4_1 : w8.cell? ⟨w.heap.size + 1 + 1, 1, none⟩ = some (.slice none 0 0) := K4.out.cell 1
    obtain ⟨W8, hW8⟩ : ∃ W, W = (w8.setCell ⟨w.heap.size + 1 + 1, 0, none⟩ (.bool sbq)).setCell ⟨w.heap.size + 1 + 1, 1, none⟩ (.slice Aq2 nq2 cq2) := ⟨_, rfl⟩
    have s1 := store_step K4.out 0 (.bool sbq)
    have s2 := store_step s1.1 1 (.slice Aq2 nq2 cq2)
    rw [← hW8] at s2
    have M4 : Blk W8 (w.heap.size + 1 + 1) 37 #[.bool sbq, .slice Aq2 nq2 cq2] := s2.1
    have M5 : Blk W8 (w.heap.size + 1 + 1 + 1) 37 #[.bool false, .slice none 0 0] := s2.2.1 _ _ _ (by omega) (s1.2.1 _ _ _ (by omega) K5.out)
    have MR : Blk W8 gr 37 #[.bool sbr2, .slice Ar2 nr2 cr2] := s2.2.1 _ _ _ (by have := HGR.out; have := HGQ.out; omega) (s1.2.1 _ _ _ (by have := HGR.out; have := HGQ.out; omega) KR.out)
    have KR_0' : W8.cell? ⟨gr, 0, none⟩ = some (.bool sbr2) := MR.cell 0
    have KR_1' : W8.cell? ⟨gr, 1, none⟩ = some (.slice Ar2 nr2 cr2) := MR.cell 1
    have F5 : ∀ j, W8.frozen? ⟨w.heap.size + 1 + 1 + 1, j, none⟩ = false := fun j => Joins.unfrozen_of_block M5 _
    have K5_0 : W8.cell? ⟨w.heap.size + 1 + 1 + 1, 0, none⟩ = some (.bool false) := M5.cell 0
    have K5_1 : W8.cell? ⟨w.heap.size + 1 + 1 + 1, 1, none⟩ = some (.slice none 0 0) := M5.cell 1
    obtain ⟨W9, hW9⟩ : ∃ W, W = (W8.setCell ⟨w.heap.size + 1 + 1 + 1, 0, none⟩ (.bool sbr2)).setCell ⟨w.heap.size + 1 + 1 + 1, 1, none⟩ (.slice Ar2 nr2 cr2) := ⟨_, rfl⟩
    have s3 := store_step M5 0 (.bool sbr2)
    have s4 := store_step s3.1 1 (.slice Ar2 nr2 cr2)
    rw [← hW9] at s4
    have P5 : Blk W9 (w.heap.size + 1 + 1 + 1) 37 #[.bool sbr2, .slice Ar2 nr2 cr2] := s4.1
    have P4 : Blk W9 (w.heap.size + 1 + 1) 37 #[.bool sbq, .slice Aq2 nq2 cq2] := s4.2.1 _ _ _ (by omega) (s3.2.1 _ _ _ (by omega) M4)
    have HP4 := Lib.hid P4
    have HP5 := Lib.hid P5
    have HBE := Lib.hid (s4.2.2 _ _ (s3.2.2 _ _ (s2.2.2 _ _ (s1.2.2 _ _ HB7.out (by omega)) (by omega)) (by omega)) (by omega))
    have NQ := Lib.hid ((((HNQ.out.cellset K4.out 0 (.bool sbq)).cellset s1.1 1 (.slice Aq2 nq2 cq2)) : NB _ _ _ _ _))
    have NR := Lib.hid ((((HNR.out.cellset K4.out 0 (.bool sbq)).cellset s1.1 1 (.slice Aq2 nq2 cq2)) : NB _ _ _ _ _))
    rw [← hW8] at NQ NR
    replace NQ := Lib.hid ((NQ.out.cellset M5 0 (.bool sbr2)).cellset s3.1 1 (.slice Ar2 nr2 cr2))
    replace NR := Lib.hid ((NR.out.cellset M5 0 (.bool sbr2)).cellset s3.1 1 (.slice Ar2 nr2 cr2))
    rw [← hW9] at NQ NR
    rw [hW8] at KR_0' KR_1' F5 K5_0 K5_1 hW9
    clear s1 s2 s3 s4 M4 M5 MR P4 P5
    go_region
    all_goals
      first
      | (rw [← hW9]
         go_wp2_with fail
         refine bodyPost_ret (results_c3 rfl _ _ _ (w.heap.size + 1 + 1) (w.heap.size + 1 + 1 + 1) _ _ rfl rfl (load24 HP4.out rfl) (load24 HP5.out rfl)) rfl ?_
         exact ⟨_, _, _, _, rfl, NQ.out.mono (Nat.le_refl _) (by omega), NR.out.mono (Nat.le_refl _) (by omega), HQR.out, (by first | exact HBE.out | exact below_drew HBE.out)⟩)
      | (subst hW9
         go_wp2_with fail
         refine bodyPost_ret (results_c3 rfl _ _ _ (w.heap.size + 1 + 1) (w.heap.size + 1 + 1 + 1) _ _ rfl rfl (load24 HP4.out rfl) (load24 HP5.out rfl)) rfl ?_
         exact ⟨_, _, _, _, rfl, NQ.out.mono (Nat.le_refl _) (by omega), NR.out.mono (Nat.le_refl _) (by omega), HQR.out, (by first | exact HBE.out | exact below_drew HBE.out)⟩)
  · by_cases hnn : na = nb
    · have HQR := Lib.hid (show QR z1 z2 zq zr from by
        have h1 := qr_same (s := na) HVD.out HVR.out
        have h2 := HZQ.out
        have h3 := HZ2.out
        rw [← hnn] at h2 h3
        rw [HZ1.out, h3, HZR.out] at h1
        simp [sgn] at h2
        rwa [h2] at h1)
      have e1 := sgn_sign na R hR0
      have e2 := sgn_sign nb z2.natAbs (by have := HY0.out; omega)
      rw [HZR.out, HSR.out] at e1
      rw [HZ2.out, HT2.out, ← hnn, ← e1] at e2
      have hs0 : (sr != 0) = true := by rw [← e2]; simpa using ht20
      have hs1 : (sr != t2) = false := by rw [e2]; simp
      clear e1 e2
      have hx0 : Below W7.heap.size W7 W7.drew := below_drew (Below.refl _ _)
      refine wp_region_mix 9 (fun w' => Below W7.heap.size W7 w') (by kernel_rfl) (by decide) ?_
      generalize W7.drew = x0 at hx0 ⊢
      refine wpM_take (i := 0) (oi := ⟨some 35, _, _, _, _, _⟩) (v := ?_) rfl (by decide +kernel) (by decide +kernel) (by decide +kernel) (fun _ _ _ h => h) (Or.inl ⟨by rfl, ?_⟩) hx0 ?_
      case refine_2 =>
        intro w' hSw
        have KR_0' := keepcell hSw KR_0
        have KR_1' := keepcell hSw KR_1
        have K3_0' := keepcell hSw K3_0
        have K3_1' := keepcell hSw K3_1
        go_simp
        try (with_reducible rfl)
      try simp only [Act.put, List.setIfInBounds_toArray, List.set_cons_zero, List.set_cons_succ]
      refine wpM_step (i := 1) (o := ⟨some 36, _, _, _, _, _⟩) rfl (by decide +kernel) (by decide) (fun K hK => ?_)
      go_simp
      refine (CSR.out x0 hx0).mono ?_
      rintro e x1 ⟨rfl, hc⟩
      have hx1 : Below W7.heap.size W7 x1 := hx0.trans (hc.mono hx0.size)
      clear hc
      refine hK.out _ _ hx1 ?_
      clear hK K
      try simp only [Act.put, List.setIfInBounds_toArray, List.set_cons_zero, List.set_cons_succ]
      refine wpM_take (i := 2) (oi := ⟨some 37, _, _, _, _, _⟩) (v := ?_) rfl (by decide +kernel) (by decide +kernel) (by decide +kernel) (fun _ _ _ h => h) (Or.inl ⟨by rfl, ?_⟩) hx1 ?_
      case refine_2 =>
        intro w' hSw
        have KR_0' := keepcell hSw KR_0
        have KR_1' := keepcell hSw KR_1
        have K3_0' := keepcell hSw K3_0
        have K3_1' := keepcell hSw K3_1
        go_simp
        try (with_reducible rfl)
      try simp only [Act.put, List.setIfInBounds_toArray, List.set_cons_zero, List.set_cons_succ]
      refine wpM_take (i := 3) (oi := ⟨some 38, _, _, _, _, _⟩) (v := ?_) rfl (by decide +kernel) (by decide +kernel) (by decide +kernel) (fun _ _ _ h => h) (Or.inl ⟨by rfl, ?_⟩) hx1 ?_
      case refine_2 =>
        intro w' hSw
        have KR_0' := keepcell hSw KR_0
        have KR_1' := keepcell hSw KR_1
        have K3_0' := keepcell hSw K3_0
        have K3_1' := keepcell hSw K3_1
        go_simp
        try (with_reducible rfl)
      try simp only [Act.put, List.setIfInBounds_toArray, List.set_cons_zero, List.set_cons_succ]
      refine wpM_take (i := 4) (oi := ⟨some 39, _, _, _, _, _⟩) (v := ?_) rfl (by decide +kernel) (by decide +kernel) (by decide +kernel) (fun _ _ _ h => h) (Or.inl ⟨by rfl, ?_⟩) hx1 ?_
      case refine_2 =>
        intro w' hSw
        have KR_0' := keepcell hSw KR_0
        have KR_1' := keepcell hSw KR_1
        have K3_0' := keepcell hSw K3_0
        have K3_1' := keepcell hSw K3_1
        go_simp
        try (with_reducible rfl)
      try simp only [Act.put, List.setIfInBounds_toArray, List.set_cons_zero, List.set_cons_succ]
      refine wpM_take (i := 6) (oi := ⟨some 41, _, _, _, _, _⟩) (v := ?_) rfl (by decide +kernel) (by decide +kernel) (by decide +kernel) (fun _ _ _ h => h) (Or.inl ⟨by rfl, ?_⟩) hx1 ?_
      case refine_2 =>
        intro w' hSw
        have KR_0' := keepcell hSw KR_0
        have KR_1' := keepcell hSw KR_1
        have K3_0' := keepcell hSw K3_0
        have K3_1' := keepcell hSw K3_1
        go_simp
        try (with_reducible rfl)
      try simp only [Act.put, List.setIfInBounds_toArray, List.set_cons_zero, List.set_cons_succ]
      refine wpM_apart (fun i => 35 + i) [5, 7, 8] (rgS sr t2 false) ap0 (by decide +kernel) (fun i j h => absurd h ap0_no) (fun i v w w' h hb => h) hx1 ?_ ?_
      · refine List.forall_mem_cons.2 ⟨?_, List.forall_mem_cons.2 ⟨?_, List.forall_mem_cons.2 ⟨?_, List.forall_mem_nil _⟩⟩⟩
        · refine ⟨⟨some 40, _, _, _, _, _⟩, rfl, rfl, fun vs W K hS hd hK => ?_⟩
          simp only [puts, List.foldl_cons, List.foldl_nil, Act.put, List.setIfInBounds_toArray, List.set_cons_zero, List.set_cons_succ, Nat.reduceAdd, Nat.reduceSub, Nat.reduceEqDiff, ↓reduceIte, reduceCtorEq] at hK ⊢
          go_simp
          refine (CSR.out W hS).mono ?_
          rintro e W' ⟨rfl, hb⟩
          exact hK _ _ (hS.trans (hb.mono hS.size)) hb rfl (fun j h => absurd h ap0_no)
        · refine ⟨⟨some 42, _, _, _, _, _⟩, rfl, rfl, fun vs W K hS hd hK => ?_⟩
          simp only [puts, List.foldl_cons, List.foldl_nil, Act.put, List.setIfInBounds_toArray, List.set_cons_zero, List.set_cons_succ, Nat.reduceAdd, Nat.reduceSub, Nat.reduceEqDiff, ↓reduceIte, reduceCtorEq] at hK ⊢
          go_simp
          refine (CSY.out W hS).mono ?_
          rintro e W' ⟨rfl, hb⟩
          exact hK _ _ (hS.trans (hb.mono hS.size)) hb rfl (fun j h => absurd h ap0_no)
        · refine ⟨⟨some 43, _, _, _, _, _⟩, rfl, rfl, fun vs W K hS hd hK => ?_⟩
          have d5 : vs 5 = .int .i64 sr := hd 5 (by decide) (by decide +kernel)
          have d7 : vs 7 = .int .i64 t2 := hd 7 (by decide) (by decide +kernel)
          simp only [puts, List.foldl_cons, List.foldl_nil, Act.put, List.setIfInBounds_toArray, List.set_cons_zero, List.set_cons_succ, Nat.reduceAdd, Nat.reduceSub, Nat.reduceEqDiff, ↓reduceIte, reduceCtorEq] at hK ⊢
          simp only [d5, d7] at hK ⊢
          go_simp
          exact hK _ _ hS (Below.refl _ _) rfl (fun j h => absurd h ap0_no)
      · intro vs y9 hS hd hap
        have d8 : vs 8 = .bool false := hd 8 (by decide)
        simp only [puts, List.foldl_cons, List.foldl_nil, Act.put, List.setIfInBounds_toArray, List.set_cons_zero, List.set_cons_succ, Nat.reduceAdd, Nat.reduceSub, Nat.reduceEqDiff, ↓reduceIte, reduceCtorEq]
        simp only [d8]
        clear hd hap d8
        simp only [List.drop_succ_cons, List.drop_zero]
        replace K2 := Lib.hid (K2.out.below hS)
        replace K3 := Lib.hid (K3.out.below hS)
        replace K4 := Lib.hid (K4.out.below hS)
        replace K5 := Lib.hid (K5.out.below hS)
        replace GX := Lib.hid (GX.out.below hS)
        replace GY := Lib.hid (GY.out.below hS)
        replace KQ := Lib.hid (KQ.out.below hS)
        replace KR := Lib.hid (KR.out.below hS)
        replace HNQ := Lib.hid (HNQ.out.below hS)
        replace HNR := Lib.hid (HNR.out.below hS)
        have HB8 := Lib.hid (HB7.out.trans (hS.mono HB7.out.size))
        clear K2_0 K2_1 K3_0 K3_1 KR_0 KR_1 KQ_0 KQ_1 CSR CSY
        clear HB7
        have HB7 := HB8
        clear hS
        have K2_0 : y9.cell? ⟨w.heap.size, 0, none⟩ = some (.bool na) := K2.out.cell 0
        have K2_1 : y9.cell? ⟨w.heap.size, 1, none⟩ = some (.slice A n c) := K2.out.cell 1
        have K3_0 : y9.cell? ⟨w.heap.size + 1, 0, none⟩ = some (.bool nb) := K3.out.cell 0
        have K3_1 : y9.cell? ⟨w.heap.size + 1, 1, none⟩ = some (.slice A2 m c2) := K3.out.cell 1
        have KR_0 : y9.cell? ⟨gr, 0, none⟩ = some (.bool sbr2) := KR.out.cell 0
        have KR_1 : y9.cell? ⟨gr, 1, none⟩ = some (.slice Ar2 nr2 cr2) := KR.out.cell 1
        have KQ_0 : y9.cell? ⟨gq, 0, none⟩ = some (.bool sbq) := KQ.out.cell 0
        have KQ_1 : y9.cell? ⟨gq, 1, none⟩ = some (.slice Aq2 nq2 cq2) := KQ.out.cell 1
        go_upto_region 8 with fail
        have F4 : ∀ j, y9.frozen? ⟨w.heap.size + 1 + 1, j, none⟩ = false := fun j => Joins.unfrozen_of_block K4.out _
        have K4_0 : y9.cell? ⟨w.heap.size + 1 + 1, 0, none⟩ = some (.bool false) := K4.out.cell 0
        have K4_1 : y9.cell? ⟨w.heap.size + 1 + 1, 1, none⟩ = some (.slice none 0 0) := K4.out.cell 1
        obtain ⟨W8, hW8⟩ : ∃ W, W = (y9.setCell ⟨w.heap.size + 1 + 1, 0, none⟩ (.bool sbq)).setCell ⟨w.heap.size + 1 + 1, 1, none⟩ (.slice Aq2 nq2 cq2) := ⟨_, rfl⟩
        have s1 := store_step K4.out 0 (.bool sbq)
        have s2 := store_step s1.1 1 (.slice Aq2 nq2 cq2)
        rw [← hW8] at s2
        have M4 : Blk W8 (w.heap.size + 1 + 1) 37 #[.bool sbq, .slice Aq2 nq2 cq2] := s2.1
        have M5 : Blk W8 (w.heap.size + 1 + 1 + 1) 37 #[.bool false, .slice none 0 0] := s2.2.1 _ _ _ (by omega) (s1.2.1 _ _ _ (by omega) K5.out)
        have MR : Blk W8 gr 37 #[.bool sbr2, .slice Ar2 nr2 cr2] := s2.2.1 _ _ _ (by have := HGR.out; have := HGQ.out; omega) (s1.2.1 _ _ _ (by have := HGR.out; have := HGQ.out; omega) KR.out)
        have KR_0' : W8.cell? ⟨gr, 0, none⟩ = some (.bool sbr2) := MR.cell 0
        have KR_1' : W8.cell? ⟨gr, 1, none⟩ = some (.slice Ar2 nr2 cr2) := MR.cell 1
        have F5 : ∀ j, W8.frozen? ⟨w.heap.size + 1 + 1 + 1, j, none⟩ = false := fun j => Joins.unfrozen_of_block M5 _
        have K5_0 : W8.cell? ⟨w.heap.size + 1 + 1 + 1, 0, none⟩ = some (.bool false) := M5.cell 0
        have K5_1 : W8.cell? ⟨w.heap.size + 1 + 1 + 1, 1, none⟩ = some (.slice none 0 0) := M5.cell 1
        obtain ⟨W9, hW9⟩ : ∃ W, W = (W8.setCell ⟨w.heap.size + 1 + 1 + 1, 0, none⟩ (.bool sbr2)).setCell ⟨w.heap.size + 1 + 1 + 1, 1, none⟩ (.slice Ar2 nr2 cr2) := ⟨_, rfl⟩
        have s3 := store_step M5 0 (.bool sbr2)
        have s4 := store_step s3.1 1 (.slice Ar2 nr2 cr2)
        rw [← hW9] at s4
        have P5 : Blk W9 (w.heap.size + 1 + 1 + 1) 37 #[.bool sbr2, .slice Ar2 nr2 cr2] := s4.1
        have P4 : Blk W9 (w.heap.size + 1 + 1) 37 #[.bool sbq, .slice Aq2 nq2 cq2] := s4.2.1 _ _ _ (by omega) (s3.2.1 _ _ _ (by omega) M4)
        have HP4 := Lib.hid P4
        have HP5 := Lib.hid P5
        have HBE := Lib.hid (s4.2.2 _ _ (s3.2.2 _ _ (s2.2.2 _ _ (s1.2.2 _ _ HB7.out (by omega)) (by omega)) (by omega)) (by omega))
        have NQ := Lib.hid ((((HNQ.out.cellset K4.out 0 (.bool sbq)).cellset s1.1 1 (.slice Aq2 nq2 cq2)) : NB _ _ _ _ _))
        have NR := Lib.hid ((((HNR.out.cellset K4.out 0 (.bool sbq)).cellset s1.1 1 (.slice Aq2 nq2 cq2)) : NB _ _ _ _ _))
        rw [← hW8] at NQ NR
        replace NQ := Lib.hid ((NQ.out.cellset M5 0 (.bool sbr2)).cellset s3.1 1 (.slice Ar2 nr2 cr2))
        replace NR := Lib.hid ((NR.out.cellset M5 0 (.bool sbr2)).cellset s3.1 1 (.slice Ar2 nr2 cr2))
        rw [← hW9] at NQ NR
        rw [hW8] at KR_0' KR_1' F5 K5_0 K5_1 hW9
        clear s1 s2 s3 s4 M4 M5 MR P4 P5
        go_region
        all_goals
          first
          | (rw [← hW9]
             go_wp2_with fail
             refine bodyPost_ret (results_c3 rfl _ _ _ (w.heap.size + 1 + 1) (w.heap.size + 1 + 1 + 1) _ _ rfl rfl (load24 HP4.out rfl) (load24 HP5.out rfl)) rfl ?_
             exact ⟨_, _, _, _, rfl, NQ.out.mono (Nat.le_refl _) (by omega), NR.out.mono (Nat.le_refl _) (by omega), HQR.out, (by first | exact HBE.out | exact below_drew HBE.out)⟩)
          | (subst hW9
             go_wp2_with fail
             refine bodyPost_ret (results_c3 rfl _ _ _ (w.heap.size + 1 + 1) (w.heap.size + 1 + 1 + 1) _ _ rfl rfl (load24 HP4.out rfl) (load24 HP5.out rfl)) rfl ?_
             exact ⟨_, _, _, _, rfl, NQ.out.mono (Nat.le_refl _) (by omega), NR.out.mono (Nat.le_refl _) (by omega), HQR.out, (by first | exact HBE.out | exact below_drew HBE.out)⟩)
    · have HQR := Lib.hid (show QR z1 z2 (zq - 1) (zr + z2) from by
        have h1 := qr_diff HVD.out HVR.out hR0 hnn
        have h2 := HZQ.out
        rw [show (na != nb) = true from by simpa using hnn] at h2
        simp only [sgn, if_pos] at h2
        have h3 := HZ2.out
        rw [HZ1.out, h3, HZR.out, h2] at h1
        exact h1)
      have e1 := sgn_sign na R hR0
      have e2 := sgn_sign nb z2.natAbs (by have := HY0.out; omega)
      rw [HZR.out, HSR.out] at e1
      rw [HZ2.out, HT2.out] at e2
      have hsd := sgn_two hnn
      rw [← e1, ← e2] at hsd
      clear e1 e2
      have hs0 : (sr != 0) = true := by simpa using hsd.1
      have hs1 : (sr != t2) = true := by simpa using hsd.2
      clear hsd
      have hx0 : Below W7.heap.size W7 W7.drew := below_drew (Below.refl _ _)
      refine wp_region_mix 9 (fun w' => Below W7.heap.size W7 w') (by kernel_rfl) (by decide) ?_
      generalize W7.drew = x0 at hx0 ⊢
      refine wpM_take (i := 0) (oi := ⟨some 35, _, _, _, _, _⟩) (v := ?_) rfl (by decide +kernel) (by decide +kernel) (by decide +kernel) (fun _ _ _ h => h) (Or.inl ⟨by rfl, ?_⟩) hx0 ?_
      case refine_2 =>
        intro w' hSw
        have KR_0' := keepcell hSw KR_0
        have KR_1' := keepcell hSw KR_1
        have K3_0' := keepcell hSw K3_0
        have K3_1' := keepcell hSw K3_1
        go_simp
        try (with_reducible rfl)
      try simp only [Act.put, List.setIfInBounds_toArray, List.set_cons_zero, List.set_cons_succ]
      refine wpM_step (i := 1) (o := ⟨some 36, _, _, _, _, _⟩) rfl (by decide +kernel) (by decide) (fun K hK => ?_)
      go_simp
      refine (CSR.out x0 hx0).mono ?_
      rintro e x1 ⟨rfl, hc⟩
      have hx1 : Below W7.heap.size W7 x1 := hx0.trans (hc.mono hx0.size)
      clear hc
      refine hK.out _ _ hx1 ?_
      clear hK K
      try simp only [Act.put, List.setIfInBounds_toArray, List.set_cons_zero, List.set_cons_succ]
      refine wpM_take (i := 2) (oi := ⟨some 37, _, _, _, _, _⟩) (v := ?_) rfl (by decide +kernel) (by decide +kernel) (by decide +kernel) (fun _ _ _ h => h) (Or.inl ⟨by rfl, ?_⟩) hx1 ?_
      case refine_2 =>
        intro w' hSw
        have KR_0' := keepcell hSw KR_0
        have KR_1' := keepcell hSw KR_1
        have K3_0' := keepcell hSw K3_0
        have K3_1' := keepcell hSw K3_1
        go_simp
        try (with_reducible rfl)
      try simp only [Act.put, List.setIfInBounds_toArray, List.set_cons_zero, List.set_cons_succ]
      refine wpM_take (i := 3) (oi := ⟨some 38, _, _, _, _, _⟩) (v := ?_) rfl (by decide +kernel) (by decide +kernel) (by decide +kernel) (fun _ _ _ h => h) (Or.inl ⟨by rfl, ?_⟩) hx1 ?_
      case refine_2 =>
        intro w' hSw
        have KR_0' := keepcell hSw KR_0
        have KR_1' := keepcell hSw KR_1
        have K3_0' := keepcell hSw K3_0
        have K3_1' := keepcell hSw K3_1
        go_simp
        try (with_reducible rfl)
      try simp only [Act.put, List.setIfInBounds_toArray, List.set_cons_zero, List.set_cons_succ]
      refine wpM_take (i := 4) (oi := ⟨some 39, _, _, _, _, _⟩) (v := ?_) rfl (by decide +kernel) (by decide +kernel) (by decide +kernel) (fun _ _ _ h => h) (Or.inl ⟨by rfl, ?_⟩) hx1 ?_
      case refine_2 =>
        intro w' hSw
        have KR_0' := keepcell hSw KR_0
        have KR_1' := keepcell hSw KR_1
        have K3_0' := keepcell hSw K3_0
        have K3_1' := keepcell hSw K3_1
        go_simp
        try (with_reducible rfl)
      try simp only [Act.put, List.setIfInBounds_toArray, List.set_cons_zero, List.set_cons_succ]
      refine wpM_take (i := 6) (oi := ⟨some 41, _, _, _, _, _⟩) (v := ?_) rfl (by decide +kernel) (by decide +kernel) (by decide +kernel) (fun _ _ _ h => h) (Or.inl ⟨by rfl, ?_⟩) hx1 ?_
      case refine_2 =>
        intro w' hSw
        have KR_0' := keepcell hSw KR_0
        have KR_1' := keepcell hSw KR_1
        have K3_0' := keepcell hSw K3_0
        have K3_1' := keepcell hSw K3_1
        go_simp
        try (with_reducible rfl)
      try simp only [Act.put, List.setIfInBounds_toArray, List.set_cons_zero, List.set_cons_succ]
      refine wpM_apart (fun i => 35 + i) [5, 7, 8] (rgS sr t2 true) ap0 (by decide +kernel) (fun i j h => absurd h ap0_no) (fun i v w w' h hb => h) hx1 ?_ ?_
      · refine List.forall_mem_cons.2 ⟨?_, List.forall_mem_cons.2 ⟨?_, List.forall_mem_cons.2 ⟨?_, List.forall_mem_nil _⟩⟩⟩
        · refine ⟨⟨some 40, _, _, _, _, _⟩, rfl, rfl, fun vs W K hS hd hK => ?_⟩
          simp only [puts, List.foldl_cons, List.foldl_nil, Act.put, List.setIfInBounds_toArray, List.set_cons_zero, List.set_cons_succ, Nat.reduceAdd, Nat.reduceSub, Nat.reduceEqDiff, ↓reduceIte, reduceCtorEq] at hK ⊢
          go_simp
          refine (CSR.out W hS).mono ?_
          rintro e W' ⟨rfl, hb⟩
          exact hK _ _ (hS.trans (hb.mono hS.size)) hb rfl (fun j h => absurd h ap0_no)
        · refine ⟨⟨some 42, _, _, _, _, _⟩, rfl, rfl, fun vs W K hS hd hK => ?_⟩
          simp only [puts, List.foldl_cons, List.foldl_nil, Act.put, List.setIfInBounds_toArray, List.set_cons_zero, List.set_cons_succ, Nat.reduceAdd, Nat.reduceSub, Nat.reduceEqDiff, ↓reduceIte, reduceCtorEq] at hK ⊢
          go_simp
          refine (CSY.out W hS).mono ?_
          rintro e W' ⟨rfl, hb⟩
          exact hK _ _ (hS.trans (hb.mono hS.size)) hb rfl (fun j h => absurd h ap0_no)
        · refine ⟨⟨some 43, _, _, _, _, _⟩, rfl, rfl, fun vs W K hS hd hK => ?_⟩
          have d5 : vs 5 = .int .i64 sr := hd 5 (by decide) (by decide +kernel)
          have d7 : vs 7 = .int .i64 t2 := hd 7 (by decide) (by decide +kernel)
          simp only [puts, List.foldl_cons, List.foldl_nil, Act.put, List.setIfInBounds_toArray, List.set_cons_zero, List.set_cons_succ, Nat.reduceAdd, Nat.reduceSub, Nat.reduceEqDiff, ↓reduceIte, reduceCtorEq] at hK ⊢
          simp only [d5, d7] at hK ⊢
          go_simp
          exact hK _ _ hS (Below.refl _ _) rfl (fun j h => absurd h ap0_no)
      · intro vs y9 hS hd hap
        have d8 : vs 8 = .bool true := hd 8 (by decide)
        simp only [puts, List.foldl_cons, List.foldl_nil, Act.put, List.setIfInBounds_toArray, List.set_cons_zero, List.set_cons_succ, Nat.reduceAdd, Nat.reduceSub, Nat.reduceEqDiff, ↓reduceIte, reduceCtorEq]
        simp only [d8]
        clear hd hap d8
        simp only [List.drop_succ_cons, List.drop_zero]
        replace K2 := Lib.hid (K2.out.below hS)
        replace K3 := Lib.hid (K3.out.below hS)
        replace K4 := Lib.hid (K4.out.below hS)
        replace K5 := Lib.hid (K5.out.below hS)
        replace GX := Lib.hid (GX.out.below hS)
        replace GY := Lib.hid (GY.out.below hS)
        replace KQ := Lib.hid (KQ.out.below hS)
        replace KR := Lib.hid (KR.out.below hS)
        replace HNQ := Lib.hid (HNQ.out.below hS)
        replace HNR := Lib.hid (HNR.out.below hS)
        have HB8 := Lib.hid (HB7.out.trans (hS.mono HB7.out.size))
        clear K2_0 K2_1 K3_0 K3_1 KR_0 KR_1 KQ_0 KQ_1 CSR CSY
        clear HB7
        have HB7 := HB8
        clear hS
        have K2_0 : y9.cell? ⟨w.heap.size, 0, none⟩ = some (.bool na) := K2.out.cell 0
        have K2_1 : y9.cell? ⟨w.heap.size, 1, none⟩ = some (.slice A n c) := K2.out.cell 1
        have K3_0 : y9.cell? ⟨w.heap.size + 1, 0, none⟩ = some (.bool nb) := K3.out.cell 0
        have K3_1 : y9.cell? ⟨w.heap.size + 1, 1, none⟩ = some (.slice A2 m c2) := K3.out.cell 1
        have KR_0 : y9.cell? ⟨gr, 0, none⟩ = some (.bool sbr2) := KR.out.cell 0
        have KR_1 : y9.cell? ⟨gr, 1, none⟩ = some (.slice Ar2 nr2 cr2) := KR.out.cell 1
        have KQ_0 : y9.cell? ⟨gq, 0, none⟩ = some (.bool sbq) := KQ.out.cell 0
        have KQ_1 : y9.cell? ⟨gq, 1, none⟩ = some (.slice Aq2 nq2 cq2) := KQ.out.cell 1
        go_upto_region 7 with fail
        have hS0 : Below y9.heap.size y9 y9.drew := below_drew (Below.refl _ _)
        refine wp_region_mix 6 (fun w' => Below y9.heap.size y9 w') (by kernel_rfl) (by decide) ?_
        generalize y9.drew = y0 at hS0 ⊢
        refine wpM_take (i := 0) (oi := ⟨some 45, _, _, _, _, _⟩) (v := ?_) rfl (by decide +kernel) (by decide +kernel) (by decide +kernel) (fun _ _ _ h => h) (Or.inl ⟨by rfl, ?_⟩) hS0 ?_
        case refine_2 =>
          intro w' hSw
          have KQ_0' := keepcell hSw KQ_0
          have KQ_1' := keepcell hSw KQ_1
          have KR_0' := keepcell hSw KR_0
          have KR_1' := keepcell hSw KR_1
          have K3_0' := keepcell hSw K3_0
          have K3_1' := keepcell hSw K3_1
          go_simp
          try (with_reducible rfl)
        try simp only [Act.put, List.setIfInBounds_toArray, List.set_cons_zero, List.set_cons_succ]
        refine wpM_take (i := 3) (oi := ⟨some 48, _, _, _, _, _⟩) (v := ?_) rfl (by decide +kernel) (by decide +kernel) (by decide +kernel) (fun _ _ _ h => h) (Or.inl ⟨by rfl, ?_⟩) hS0 ?_
        case refine_2 =>
          intro w' hSw
          have KQ_0' := keepcell hSw KQ_0
          have KQ_1' := keepcell hSw KQ_1
          have KR_0' := keepcell hSw KR_0
          have KR_1' := keepcell hSw KR_1
          have K3_0' := keepcell hSw K3_0
          have K3_1' := keepcell hSw K3_1
          go_simp
          try (with_reducible rfl)
        try simp only [Act.put, List.setIfInBounds_toArray, List.set_cons_zero, List.set_cons_succ]
        refine wpM_take (i := 4) (oi := ⟨some 49, _, _, _, _, _⟩) (v := ?_) rfl (by decide +kernel) (by decide +kernel) (by decide +kernel) (fun _ _ _ h => h) (Or.inl ⟨by rfl, ?_⟩) hS0 ?_
        case refine_2 =>
          intro w' hSw
          have KQ_0' := keepcell hSw KQ_0
          have KQ_1' := keepcell hSw KQ_1
          have KR_0' := keepcell hSw KR_0
          have KR_1' := keepcell hSw KR_1
          have K3_0' := keepcell hSw K3_0
          have K3_1' := keepcell hSw K3_1
          go_simp
          try (with_reducible rfl)
        try simp only [Act.put, List.setIfInBounds_toArray, List.set_cons_zero, List.set_cons_succ]
        clear KQ_0 KQ_1 KR_0 KR_1 K3_0 K3_1 K2_0 K2_1
        obtain ⟨KK, hKK⟩ : ∃ K, K = 8 * N + 28 := ⟨_, rfl⟩
        have HKK := Lib.hid hKK
        refine wpM_apart (fun i => 45 + i) [1, 2, 5] (rdS y9.heap.size (zq - 1) (zr + z2) KK) ap0 (by decide +kernel) (fun i j h => absurd h ap0_no) (rdS_mono y9.heap.size (zq - 1) (zr + z2) KK) hS0 ?_ ?_
        · refine List.forall_mem_cons.2 ⟨?_, List.forall_mem_cons.2 ⟨?_, List.forall_mem_cons.2 ⟨?_, List.forall_mem_nil _⟩⟩⟩
          · refine ⟨⟨some 46, _, _, _, _, _⟩, rfl, rfl, fun vs W K hS hd hK => ?_⟩
            simp only [puts, List.foldl_cons, List.foldl_nil, Act.put, List.setIfInBounds_toArray, List.set_cons_zero, List.set_cons_succ, Nat.reduceAdd, Nat.reduceSub, Nat.reduceEqDiff, ↓reduceIte, reduceCtorEq] at hK ⊢
            go_simp
            refine (ROf_any 1 W (by decide) (by decide)).mono ?_
            rintro e W' ⟨v, rfl, hv, hb⟩
            exact hK _ _ (hS.trans (hb.mono hS.size)) hb (show NB W' y9.heap.size v 1 6 from hv.mono hS.size (Nat.le_refl _)) (fun j h => absurd h ap0_no)
          · refine ⟨⟨some 47, _, _, _, _, _⟩, rfl, rfl, fun vs W K hS hd hK => ?_⟩
            have d1 : NB W y9.heap.size (vs 1) 1 6 := hd 1 (by decide) (by decide +kernel)
            simp only [puts, List.foldl_cons, List.foldl_nil, Act.put, List.setIfInBounds_toArray, List.set_cons_zero, List.set_cons_succ, Nat.reduceAdd, Nat.reduceSub, Nat.reduceEqDiff, ↓reduceIte, reduceCtorEq] at hK ⊢
            go_simp
            refine (RSub_any _ _ zq 1 (2 * N + 6) W ((HNQ.out.below hS).bg.wide (by omega)) (d1.bg.wide (by omega)) (by omega)).mono ?_
            rintro e W' ⟨v, rfl, hv, hb⟩
            exact hK _ _ (hS.trans (hb.mono hS.size)) hb (show NB W' y9.heap.size v (zq - 1) KK from hv.mono hS.size (by have := HKK.out; omega)) (fun j h => absurd h ap0_no)
          · refine ⟨⟨some 50, _, _, _, _, _⟩, rfl, rfl, fun vs W K hS hd hK => ?_⟩
            simp only [puts, List.foldl_cons, List.foldl_nil, Act.put, List.setIfInBounds_toArray, List.set_cons_zero, List.set_cons_succ, Nat.reduceAdd, Nat.reduceSub, Nat.reduceEqDiff, ↓reduceIte, reduceCtorEq] at hK ⊢
            go_simp
            refine (RAdd_any _ _ zr z2 (2 * N + 1) W (HNR.out.below hS).bg ((GY.out.below hS).wide (by omega)) (by omega)).mono ?_
            rintro e W' ⟨v, rfl, hv, hb⟩
            exact hK _ _ (hS.trans (hb.mono hS.size)) hb (show NB W' y9.heap.size v (zr + z2) KK from hv.mono hS.size (by have := HKK.out; omega)) (fun j h => absurd h ap0_no)
        · intro vs yb hS hd hap
          have d2 : NB yb y9.heap.size (vs 2) (zq - 1) KK := hd 2 (by decide)
          have d5 : NB yb y9.heap.size (vs 5) (zr + z2) KK := hd 5 (by decide)
          replace d2 := d2.mono HB7.out.size (Nat.le_refl _)
          replace d5 := d5.mono HB7.out.size (Nat.le_refl _)
          obtain ⟨sq3, Aq3, nq3, cq3, eq3⟩ := d2.expose
          obtain ⟨sr3, Ar3, nr3, cr3, er3⟩ := d5.expose
          simp only [puts, List.foldl_cons, List.foldl_nil, Act.put, List.setIfInBounds_toArray, List.set_cons_zero, List.set_cons_succ, Nat.reduceAdd, Nat.reduceSub, Nat.reduceEqDiff, ↓reduceIte, reduceCtorEq]
          simp only [eq3, er3]
          rw [eq3] at d2
          rw [er3] at d5
          have HNQ9 := Lib.hid d2
          have HNR9 := Lib.hid d5
          clear d2 d5 hd hap eq3 er3 HNQ HNR
          simp only [List.drop_succ_cons, List.drop_zero]
          replace KQ := Lib.hid (KQ.out.below hS)
          replace KR := Lib.hid (KR.out.below hS)
          replace K4 := Lib.hid (K4.out.below hS)
          replace K5 := Lib.hid (K5.out.below hS)
          replace HB7 := Lib.hid (HB7.out.trans (hS.mono HB7.out.size))
          clear hS hS0
          obtain ⟨Wa, hWa⟩ : ∃ W, W = yb.setRow gq #[.bool sq3, .slice Aq3 nq3 cq3] := ⟨_, rfl⟩
          have ROa := Lib.hid (fun g cs (h : g ≠ gq) (hb : Blk yb g 37 cs) => show Blk Wa g 37 cs from by rw [hWa]; exact (setRow_other yb gq g _ h).trans hb)
          have KQa := Lib.hid (show Blk Wa gq 37 #[.bool sq3, .slice Aq3 nq3 cq3] by rw [hWa]; exact KQ.out.setRow)
          have KRa := Lib.hid (ROa.out gr _ (by have := HGR.out; omega) KR.out)
          have K4a := Lib.hid (ROa.out (w.heap.size + 1 + 1) _ (by have := HGQ.out; omega) K4.out)
          have K5a := Lib.hid (ROa.out (w.heap.size + 1 + 1 + 1) _ (by have := HGQ.out; omega) K5.out)
          have HNQa := Lib.hid (show NB Wa w.heap.size (.agg #[.bool sq3, .slice Aq3 nq3 cq3]) (zq - 1) KK by rw [hWa]; exact NB.row HNQ9.out KQ.out _)
          have HNRa := Lib.hid (show NB Wa w.heap.size (.agg #[.bool sr3, .slice Ar3 nr3 cr3]) (zr + z2) KK by rw [hWa]; exact NB.row HNR9.out KQ.out _)
          have HBa := Lib.hid (show Below w.heap.size w Wa by rw [hWa]; exact HB7.out.grown (grown_row _ gq _) HB7.out.size (fun j hj => by injection hj with hj; have := HGQ.out; omega))
          obtain ⟨Wd, hWd⟩ : ∃ W, W = Wa.setRow gr #[.bool sr3, .slice Ar3 nr3 cr3] := ⟨_, rfl⟩
          have ROd := Lib.hid (fun g cs (h : g ≠ gr) (hb : Blk Wa g 37 cs) => show Blk Wd g 37 cs from by rw [hWd]; exact (setRow_other Wa gr g _ h).trans hb)
          have KRd := Lib.hid (show Blk Wd gr 37 #[.bool sr3, .slice Ar3 nr3 cr3] by rw [hWd]; exact KRa.out.setRow)
          have KQd := Lib.hid (ROd.out gq _ (by have := HGR.out; omega) KQa.out)
          have K4d := Lib.hid (ROd.out (w.heap.size + 1 + 1) _ (by have := HGR.out; have := HGQ.out; omega) K4a.out)
          have K5d := Lib.hid (ROd.out (w.heap.size + 1 + 1 + 1) _ (by have := HGR.out; have := HGQ.out; omega) K5a.out)
          have HNQ := Lib.hid (show NB Wd w.heap.size (.agg #[.bool sq3, .slice Aq3 nq3 cq3]) (zq - 1) KK by rw [hWd]; exact NB.row HNQa.out KRa.out _)
          have HNR := Lib.hid (show NB Wd w.heap.size (.agg #[.bool sr3, .slice Ar3 nr3 cr3]) (zr + z2) KK by rw [hWd]; exact NB.row HNRa.out KRa.out _)
          replace HB7 := Lib.hid (show Below w.heap.size w Wd by rw [hWd]; exact HBa.out.grown (grown_row _ gr _) HBa.out.size (fun j hj => by injection hj with hj; have := HGR.out; have := HGQ.out; omega))
          go_upto_region 8 with (first | (refine wpList_store_row (o := ⟨none, _, _, _, _, _⟩) rfl 37 _ _ rfl gq #[.bool sq3, .slice Aq3 nq3 cq3] rfl rfl 37 _ KQ.out (by kernel_rfl) rfl (by simp [Value.oneCell']) ?_; rw [← hWa]) | (refine wpList_store_row (o := ⟨none, _, _, _, _, _⟩) rfl 37 _ _ rfl gr #[.bool sr3, .slice Ar3 nr3 cr3] rfl rfl 37 _ KRa.out (by kernel_rfl) rfl (by simp [Value.oneCell']) ?_; rw [← hWd]))
          clear hWa hWd KQ KR K4 K5 KQa KRa K4a K5a HNQa HNRa HBa
          have KQ := KQd
          have KR := KRd
          have K4 := K4d
          have K5 := K5d
          clear KQd KRd K4d K5d
          have hKK := HKK.out
          have KR_0 : Wd.cell? ⟨gr, 0, none⟩ = some (.bool sr3) := KR.out.cell 0
          have KR_1 : Wd.cell? ⟨gr, 1, none⟩ = some (.slice Ar3 nr3 cr3) := KR.out.cell 1
          have KQ_0 : Wd.cell? ⟨gq, 0, none⟩ = some (.bool sq3) := KQ.out.cell 0
          have KQ_1 : Wd.cell? ⟨gq, 1, none⟩ = some (.slice Aq3 nq3 cq3) := KQ.out.cell 1
          have F4 : ∀ j, Wd.frozen? ⟨w.heap.size + 1 + 1, j, none⟩ = false := fun j => Joins.unfrozen_of_block K4.out _
          have K4_0 : Wd.cell? ⟨w.heap.size + 1 + 1, 0, none⟩ = some (.bool false) := K4.out.cell 0
          have K4_1 : Wd.cell? ⟨w.heap.size + 1 + 1, 1, none⟩ = some (.slice none 0 0) := K4.out.cell 1
          obtain ⟨Wb, hWb⟩ : ∃ W, W = (Wd.setCell ⟨w.heap.size + 1 + 1, 0, none⟩ (.bool sq3)).setCell ⟨w.heap.size + 1 + 1, 1, none⟩ (.slice Aq3 nq3 cq3) := ⟨_, rfl⟩
          have s1 := store_step K4.out 0 (.bool sq3)
          have s2 := store_step s1.1 1 (.slice Aq3 nq3 cq3)
          rw [← hWb] at s2
          have M4 : Blk Wb (w.heap.size + 1 + 1) 37 #[.bool sq3, .slice Aq3 nq3 cq3] := s2.1
          have M5 : Blk Wb (w.heap.size + 1 + 1 + 1) 37 #[.bool false, .slice none 0 0] := s2.2.1 _ _ _ (by omega) (s1.2.1 _ _ _ (by omega) K5.out)
          have MR : Blk Wb gr 37 #[.bool sr3, .slice Ar3 nr3 cr3] := s2.2.1 _ _ _ (by have := HGR.out; have := HGQ.out; omega) (s1.2.1 _ _ _ (by have := HGR.out; have := HGQ.out; omega) KR.out)
          have KR_0' : Wb.cell? ⟨gr, 0, none⟩ = some (.bool sr3) := MR.cell 0
          have KR_1' : Wb.cell? ⟨gr, 1, none⟩ = some (.slice Ar3 nr3 cr3) := MR.cell 1
          have F5 : ∀ j, Wb.frozen? ⟨w.heap.size + 1 + 1 + 1, j, none⟩ = false := fun j => Joins.unfrozen_of_block M5 _
          have K5_0 : Wb.cell? ⟨w.heap.size + 1 + 1 + 1, 0, none⟩ = some (.bool false) := M5.cell 0
          have K5_1 : Wb.cell? ⟨w.heap.size + 1 + 1 + 1, 1, none⟩ = some (.slice none 0 0) := M5.cell 1
          obtain ⟨Wc, hWc⟩ : ∃ W, W = (Wb.setCell ⟨w.heap.size + 1 + 1 + 1, 0, none⟩ (.bool sr3)).setCell ⟨w.heap.size + 1 + 1 + 1, 1, none⟩ (.slice Ar3 nr3 cr3) := ⟨_, rfl⟩
          have s3 := store_step M5 0 (.bool sr3)
          have s4 := store_step s3.1 1 (.slice Ar3 nr3 cr3)
          rw [← hWc] at s4
          have P5 : Blk Wc (w.heap.size + 1 + 1 + 1) 37 #[.bool sr3, .slice Ar3 nr3 cr3] := s4.1
          have P4 : Blk Wc (w.heap.size + 1 + 1) 37 #[.bool sq3, .slice Aq3 nq3 cq3] := s4.2.1 _ _ _ (by omega) (s3.2.1 _ _ _ (by omega) M4)
          have HP4 := Lib.hid P4
          have HP5 := Lib.hid P5
          have HBE := Lib.hid (s4.2.2 _ _ (s3.2.2 _ _ (s2.2.2 _ _ (s1.2.2 _ _ HB7.out (by omega)) (by omega)) (by omega)) (by omega))
          have NQ := Lib.hid ((((HNQ.out.cellset K4.out 0 (.bool sq3)).cellset s1.1 1 (.slice Aq3 nq3 cq3)) : NB _ _ _ _ _))
          have NR := Lib.hid ((((HNR.out.cellset K4.out 0 (.bool sq3)).cellset s1.1 1 (.slice Aq3 nq3 cq3)) : NB _ _ _ _ _))
          rw [← hWb] at NQ NR
          replace NQ := Lib.hid ((NQ.out.cellset M5 0 (.bool sr3)).cellset s3.1 1 (.slice Ar3 nr3 cr3))
          replace NR := Lib.hid ((NR.out.cellset M5 0 (.bool sr3)).cellset s3.1 1 (.slice Ar3 nr3 cr3))
          rw [← hWc] at NQ NR
          rw [hWb] at KR_0' KR_1' F5 K5_0 K5_1 hWc
          clear s1 s2 s3 s4 M4 M5 MR P4 P5
          go_region
          all_goals
            first
            | (rw [← hWc]
               go_wp2_with fail
               refine bodyPost_ret (results_c3 rfl _ _ _ (w.heap.size + 1 + 1) (w.heap.size + 1 + 1 + 1) _ _ rfl rfl (load24 HP4.out rfl) (load24 HP5.out rfl)) rfl ?_
               exact ⟨_, _, _, _, rfl, NQ.out.mono (Nat.le_refl _) (by omega), NR.out.mono (Nat.le_refl _) (by omega), HQR.out, (by first | exact HBE.out | exact below_drew HBE.out)⟩)
            | (subst hWc
               go_wp2_with fail
               refine bodyPost_ret (results_c3 rfl _ _ _ (w.heap.size + 1 + 1) (w.heap.size + 1 + 1 + 1) _ _ rfl rfl (load24 HP4.out rfl) (load24 HP5.out rfl)) rfl ?_
               exact ⟨_, _, _, _, rfl, NQ.out.mono (Nat.le_refl _) (by omega), NR.out.mono (Nat.le_refl _) (by omega), HQR.out, (by first | exact HBE.out | exact below_drew HBE.out)⟩)
set_option maxRecDepth 100000 in
set_option maxHeartbeats 4000000 in
theorem RDivFloor_zero (a b : Value) (z1 : Int) (N : Nat) (w : World) (ha : BG w a z1 N) (hb : BG w b 0 N) (hN : N ≤ 4000) : Calls Try.prog 54 #[a, b] w fun e w' => e = .returned (.tuple #[.agg #[.bool false, .slice none 0 0], .agg #[.bool false, .slice none 0 0], .bool false]) ∧ Below w.heap.size w w' := by
  obtain ⟨na, A, n, c, D, rfl, hd1, hs1, hn1, hz1⟩ := ha
  obtain ⟨nb, A2, m, c2, E, rfl, hd2, hs2, hn2, hz2⟩ := hb
  obtain ⟨W0, hW0⟩ : ∃ W, W = (((w.alloc (.cells #[.bool na, .slice A n c] 37)).alloc (.cells #[.bool nb, .slice A2 m c2] 37)).alloc (.cells #[.bool false, .slice none 0 0] 37)).alloc (.cells #[.bool false, .slice none 0 0] 37) := ⟨_, rfl⟩
  have HB := Lib.hid (show Below w.heap.size w W0 by rw [hW0]; exact ((((Below.refl _ w).alloc (Nat.le_refl _) _).alloc (by simp) _).alloc (by simp; omega) _).alloc (by simp; omega) _)
  have K3 := Lib.hid (show Blk W0 (w.heap.size + 1) 37 #[.bool nb, .slice A2 m c2] by rw [hW0]; exact ((Blk.new_ (by simp) rfl : Blk ((w.alloc _).alloc _) _ _ _).alloc _).alloc _)
  have K4 := Lib.hid (show Blk W0 (w.heap.size + 1 + 1) 37 #[.bool false, .slice none 0 0] by rw [hW0]; exact (Blk.new_ (by simp) rfl : Blk (((w.alloc _).alloc _).alloc _) _ _ _).alloc _)
  have K5 := Lib.hid (show Blk W0 (w.heap.size + 1 + 1 + 1) 37 #[.bool false, .slice none 0 0] by rw [hW0]; exact Blk.new_ (by simp) rfl)
  have CS := Lib.hid (RSign_any _ 0 N W0 (show BG W0 (.agg #[.bool nb, .slice A2 m c2]) 0 N from BG.below ⟨nb, A2, m, c2, E, rfl, hd2, hs2, hn2, hz2⟩ HB.out) (by omega))
  rw [show (0 : Int).sign = 0 from rfl] at CS
  have K3_0 : W0.cell? ⟨w.heap.size + 1, 0, none⟩ = some (.bool nb) := K3.out.cell 0
  have K3_1 : W0.cell? ⟨w.heap.size + 1, 1, none⟩ = some (.slice A2 m c2) := K3.out.cell 1
  clear hd1 hd2 hs1 hs2 hz1 hz2
  go_enter Try.func54, Try.ntmps54
  go_upto_region 1 with fail
  rw [← hW0]
  clear hW0
  go_wp2_with fail
  refine CS.out.mono ?_
  rintro e w1 ⟨rfl, hb⟩
  replace K4 := Lib.hid (K4.out.below hb)
  replace K5 := Lib.hid (K5.out.below hb)
  replace HB := Lib.hid (HB.out.trans (hb.mono HB.out.size))
  clear hb CS K3_0 K3_1
  obtain ⟨W1, hW1⟩ : ∃ W, W = w1.setRow (w.heap.size + 1 + 1) #[.bool false, .slice none 0 0] := ⟨_, rfl⟩
  have M4 := Lib.hid (show Blk W1 (w.heap.size + 1 + 1) 37 #[.bool false, .slice none 0 0] by rw [hW1]; exact K4.out.setRow)
  have M5 := Lib.hid (show Blk W1 (w.heap.size + 1 + 1 + 1) 37 #[.bool false, .slice none 0 0] by rw [hW1]; exact (setRow_other w1 _ _ _ (by omega)).trans K5.out)
  have HB1 := Lib.hid (show Below w.heap.size w W1 by rw [hW1]; exact HB.out.grown (grown_row _ _ _) HB.out.size (fun j hj => by injection hj with hj; omega))
  have M4' := Lib.hid (show Blk (W1.setRow (w.heap.size + 1 + 1 + 1) #[.bool false, .slice none 0 0]) (w.heap.size + 1 + 1) 37 #[.bool false, .slice none 0 0] from (setRow_other W1 _ _ _ (by omega)).trans M4.out)
  go_wp2_with (first | ((refine wpList_store_row (o := ⟨none, _, _, _, _, _⟩) rfl 37 _ _ rfl (w.heap.size + 1 + 1) #[.bool false, .slice none 0 0] rfl rfl 37 _ K4.out (by kernel_rfl) rfl (by simp [Value.oneCell']) ?_); rw [← hW1]; clear hW1) | (refine wpList_store_row (o := ⟨none, _, _, _, _, _⟩) rfl 37 _ _ rfl (w.heap.size + 1 + 1 + 1) #[.bool false, .slice none 0 0] rfl rfl 37 _ M5.out (by kernel_rfl) rfl (by simp [Value.oneCell']) ?_))
  refine bodyPost_ret (results_c3 rfl _ _ _ (w.heap.size + 1 + 1) (w.heap.size + 1 + 1 + 1) _ _ rfl rfl (load24 M4'.out rfl) (load24 (M5.out.setRow (ds := #[.bool false, .slice none 0 0])) rfl)) rfl ?_
  exact ⟨rfl, HB1.out.grown (grown_row _ _ _) HB1.out.size (fun j hj => by injection hj with hj; omega)⟩
theorem RDivFloor_qr (a b : Value) (z1 z2 q r : Int) (N : Nat) (w : World) (ha : BG w a z1 N) (hb : BG w b z2 N) (hN : N ≤ 4000) (hz : z2 ≠ 0) (hq : QR z1 z2 q r) : Calls Try.prog 54 #[a, b] w fun e w' => ∃ vq vr, e = .returned (.tuple #[vq, vr, .bool true]) ∧ NB w' w.heap.size vq q (8 * N + 28) ∧ NB w' w.heap.size vr r (8 * N + 28) ∧ Below w.heap.size w w' := by
  refine (RDivFloor_any a b z1 z2 N w ha hb hN hz).mono ?_
  rintro e w' ⟨vq, vr, q', r', rfl, h1, h2, h3, hb⟩
  obtain ⟨rfl, rfl⟩ := qr_unique h3 hq
  exact ⟨vq, vr, rfl, h1, h2, hb⟩

/- Brk -/

theorem hv_inj {w : World} {v : Value} {x y N M : Nat} (h : HV w v x N) (h2 : HV w v y M) : x = y := by
  obtain ⟨A, n, c, L, rfl, hg, _, _, hv, _⟩ := h
  obtain ⟨A2, n2, c2, L2, e, hg2, _, _, hv2, _⟩ := h2
  cases e
  have hl : L = L2 := by
    apply List.ext_getElem?
    intro j
    rcases Nat.lt_or_ge j n with hj | hj
    · obtain ⟨d, hd⟩ : ∃ d, L[j]? = some d := ⟨_, List.getElem?_eq_getElem (by rw [hg.1]; exact hj)⟩
      obtain ⟨d2, hd2⟩ : ∃ d, L2[j]? = some d := ⟨_, List.getElem?_eq_getElem (by rw [hg2.1]; exact hj)⟩
      obtain ⟨b, off, e, _, hc⟩ := hg.2.2 (by omega)
      obtain ⟨b2, off2, e2, _, hc2⟩ := hg2.2.2 (by omega)
      rw [e] at e2
      cases e2
      have h1 := (hc j d hd).symm.trans (hc2 j d2 hd2)
      injection h1 with h1
      injection h1 with _ h1
      rw [hd, hd2, Int.ofNat.inj h1]
    · rw [List.getElem?_eq_none (by rw [hg.1]; exact hj), List.getElem?_eq_none (by rw [hg2.1]; exact hj)]
  rw [← hv, ← hv2, hl]
open Classical in
/-- The number that a list of digits stands for. -/
noncomputable def hvN (w : World) (v : Value) : Nat := if h : ∃ x N, HV w v x N then h.choose else 0
theorem hvN_of {w : World} {v : Value} {x N : Nat} (h : HV w v x N) : hvN w v = x := by
  have he : ∃ x N, HV w v x N := ⟨x, N, h⟩
  unfold hvN
  rw [dif_pos he]
  obtain ⟨M, hM⟩ := he.choose_spec
  exact hv_inj hM h
end Go.Proofs.Ythfolccofjaknaa
