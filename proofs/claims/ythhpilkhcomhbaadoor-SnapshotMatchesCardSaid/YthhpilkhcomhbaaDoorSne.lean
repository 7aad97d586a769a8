/- Ssm Sac in one text. -/
import Derived.Test.YthhpilkhcomhbaaDoorSdm
import Derived.Deep.Cut
namespace Go.Proofs.YthhpilkhcomhbaaDoor
open Go.ChangeShapes Go.WideShapes Go.ChangeAt Go.RowKit Go.ChangeMaps
section
set_option maxRecDepth 100000 in
set_option maxHeartbeats 2000000 in
theorem same_any (w : World) (p q r t : Nat) (s : St) (h : DM w p q r t s) (hj : s.J) :
    Calls Tryd.prog 18 #[.pointer (some ⟨p, 0, none⟩), .pointer (some ⟨r, 0, none⟩)] w fun e w' => e = .returned (.bool true) ∧ DM w' p q r t s ∧ Chg (F4 p q r t) w w' := by
  have HN := Lib.hid h.ne
  have HNZ := Lib.hid h.nz
  have HE0 := Lib.hid h.ev
  have HJ := Lib.hid hj
  have hn : s.R.length ≤ 65536 := h.d.2.2.2.2.2.1
  have HD := Lib.hid h.d
  have HR := Lib.hid h.rk
  have C1 := Lib.hid (Failed_any w p q s h.d)
  obtain ⟨cap, hcap, c0, c1, -⟩ := h.rk.cells
  obtain ⟨n, hnn⟩ : ∃ n, s.R.length = n := ⟨_, rfl⟩
  rw [hnn] at c0 hn hcap
  have HNN := Lib.hid hnn
  obtain ⟨ff, hff⟩ : ∃ b, s.f = b := ⟨_, rfl⟩
  have HFF := Lib.hid hff
  rw [hff] at C1 c1
  clear h hj hnn hff
  have hbb : (ff != ff) = false := by cases ff <;> rfl
  go_enter Tryd.func18, Tryd.ntmps18
  go_wp2_with fail
  refine C1.out.mono ?_
  rintro e w1 ⟨rfl, hw⟩
  subst hw
  go_wp2_with fail
  refine (Restart_any w p q s HD.out).mono ?_
  rintro e v1 ⟨rfl, hd1, hc1⟩
  have HD1 := Lib.hid hd1
  have HR1 := Lib.hid (HR.out.pq HN.out hc1)
  have HC1 := Lib.hid (show Chg (F4 p q r t) w v1 from hc1.mono (fun _ => F4_pq))
  clear hd1 hc1 c0 c1 C1 hcap
  obtain ⟨cap, hcap, c0, -⟩ := HR1.out.cells
  rw [HNN.out] at c0 hcap
  go_wp2
  go_loopw [25] (fun i wr => ∃ k : Nat, k ≤ n ∧ i = .int .i64 (k : Int) ∧ Dk wr p q s.Re ∧ Rk (F4 p q r t) wr r t s ∧ Chg (F4 p q r t) w wr) (fun i _ => n - (intOf i).toNat)
  case atStart => exact ⟨0, Nat.zero_le _, rfl, HD1.out, HR1.out, HC1.out⟩
  case round =>
    clear HD1 HR1 HC1 c0 HD HR
    obtain ⟨k, hk, rfl, hD, hR, hC⟩ := hrel
    have HD := Lib.hid hD
    have HR := Lib.hid hR
    have HC := Lib.hid hC
    clear hD hR hC
    by_cases hlt : k < n
    · have hkl : k < s.Re.R.length := by rw [show s.Re.R.length = n from HNN.out]; exact hlt
      have hki : (k : Int) < n := by omega
      have hkk : (0 : Int) ≤ k := by omega
      have CRD := Lib.hid (Read_ok wr p q _ HD.out rfl k hkl)
      obtain ⟨A9, c9, e9, -, -, b9, -⟩ := HR.out.sec k (by rw [HNN.out]; exact hlt)
      have HB9 := Lib.hid b9.at
      have HSL := Lib.hid (getD_len64 HD.out.2.2.2.1 hkl)
      clear b9
      go_wp2_with fail
      refine CRD.out.mono ?_
      rintro e v5 ⟨g5, rfl, hg5, hk5, hb5⟩
      have s1 := string_at (c := 64) (bytes_of_blk (n := 64) hk5 HSL.out)
      have s2 := string_at (c := c9) (HB9.out.below hb5)
      have HD2 := Lib.hid (HD.out.below hb5)
      have HR2 := Lib.hid (HR.out.below hb5)
      have HC2 := Lib.hid (HC.out.trans (Chg.of_below hb5))
      rw [show s.Re.R = s.R from rfl] at s1
      clear hk5 hb5 hg5 CRD HD HR HC HB9 HSL
      generalize (⟨(s.R.getD k []).toArray⟩ : ByteArray) = qq at *
      go_wp2
      go_roundw
      case rel => exact ⟨k + 1, by omega, by go_num, HD2.out, HR2.out, HC2.out⟩
      case measure => simp [intOf]; omega
    · obtain rfl : k = n := by omega
      cases ff
      · have HF := Lib.hid (show DM _ p q r t s from ⟨(by rw [← Re_id HFF.out]; exact HD.out), HR.out, HN.out, HE0.out.chg HC.out HNZ.out, HNZ.out⟩)
        go_wp2
        go_ret
        exact ⟨rfl, HF.out, HC.out⟩
      · go_wp2_with fail
        refine (Fail_any _ p q s.Re HD.out).mono ?_
        rintro e v6 ⟨rfl, hd6, hc6⟩
        rw [Re_Fl HJ.out HFF.out] at hd6
        have HC6 := Lib.hid (HC.out.trans (hc6.mono (fun _ => F4_pq)))
        have HF := Lib.hid (show DM v6 p q r t s from ⟨hd6, HR.out.pq HN.out hc6, HN.out, HE0.out.chg HC6.out HNZ.out, HNZ.out⟩)
        clear hd6 hc6
        go_wp2
        go_ret
        exact ⟨rfl, HF.out, HC6.out⟩
end

section
/-- An operation in memory. -/
def ActAt (w : World) (b o : Nat) (x : ActM) : Prop :=
  w.cell? ⟨b, o, none⟩ = some (.int .u8 x.k) ∧ w.cell? ⟨b, o + 1, none⟩ = some (.int .u32 (x.e : Int)) ∧ w.cell? ⟨b, o + 2, none⟩ = some (.slice x.A x.m x.c) ∧ w.cell? ⟨b, o + 3, none⟩ = some (.int .i64 x.n) ∧ w.cell? ⟨b, o + 4, none⟩ = some (.int .i64 x.b) ∧ BytesAt w x.A x.m x.d ∧ x.ok
def ActsAt (w : World) (A : Option Addr) (n : Nat) (L : List ActM) : Prop := L.length = n ∧ (0 < n → ∃ b off, A = some ⟨b, off, none⟩ ∧ b < w.heap.size ∧ ∀ i (h : i < L.length), ActAt w b (off + i * 5) L[i])
theorem ActAt.below {w w' : World} {b o : Nat} {x : ActM} (h : ActAt w b o x) (hb : Below w.heap.size w w') : ActAt w' b o x :=
  ⟨keepcell hb h.1, keepcell hb h.2.1, keepcell hb h.2.2.1, keepcell hb h.2.2.2.1, keepcell hb h.2.2.2.2.1, h.2.2.2.2.2.1.below hb, h.2.2.2.2.2.2⟩
theorem ActsAt.below {w w' : World} {A : Option Addr} {n : Nat} {L : List ActM} (h : ActsAt w A n L) (hb : Below w.heap.size w w') : ActsAt w' A n L := ⟨h.1, fun hn => by
  obtain ⟨b, off, e, hl, hc⟩ := h.2 hn
  exact ⟨b, off, e, Nat.lt_of_lt_of_le hl hb.size, fun i hi => (hc i hi).below hb⟩⟩
theorem Tryd.cells38 : Tryd.prog.cellsOf 38 = 5 := by kernel_rfl
open Go.Deep Go.WideElems in
set_option maxRecDepth 100000 in
theorem open_Acts {H : Type} {enc : TypeId × Value → H} {W : World} {r : Reach} {b0 : Nat} {v : Value} {d : DataW H} {p : List MemPlace}
    (hv : Value.okWide Tryd.prog W r b0 34 v) (h : DataW.Trod enc Tryd.prog W 0 (fun _ => true) true 34 v d p) (hlt : ∀ x ∈ p, x.block < W.heap.size) :
    ∃ (A : Option Addr) (n c : Nat) (R : List ActM), v = .slice A n c ∧ ActsAt W A n R ∧ n ≤ 9223372036854775807 := by
  obtain ⟨a0, len, cap, rfl⟩ := okWide_slice Tryd.underlying34 hv
  obtain ⟨fuel, hf⟩ := h
  rcases open_slice_fields Tryd.underlying34 Tryd.underlying38 (by kernel_rfl) Tryd.cells38 hf with ⟨hcs, hx⟩ | ⟨a, len', cap', m, D, Pl, hcs, _, hl, hm, hmm, hx, hi⟩
  · simp [Value.cells] at hcs
    obtain ⟨rfl, rfl, rfl⟩ := hcs
    exact ⟨_, _, _, [], rfl, ⟨rfl, fun h => absurd h (by omega)⟩, by omega⟩
  · simp [Value.cells] at hcs
    obtain ⟨rfl, rfl, rfl⟩ := hcs
    simp only [if_true] at hmm
    subst hmm
    simp only [Prod.mk.injEq] at hx
    obtain ⟨rfl, rfl⟩ := hx
    unfold maxLen at hm
    have key : ∀ i, i < len → ∃ x : ActM, x.ok ∧ W.cell? (a.add (i * 5 + 0)) = some (.int .u8 x.k) ∧ W.cell? (a.add (i * 5 + 1)) = some (.int .u32 (x.e : Int)) ∧ W.cell? (a.add (i * 5 + 2)) = some (.slice x.A x.m x.c) ∧ W.cell? (a.add (i * 5 + 3)) = some (.int .i64 x.n) ∧ W.cell? (a.add (i * 5 + 4)) = some (.int .i64 x.b) ∧ BytesAt W x.A x.m x.d := by
      intro i hil
      obtain ⟨ys, nn, hD, hP, hyl, hfs⟩ := hi i (by omega)
      obtain ⟨v0, y0, e0, k0, t0⟩ := hfs 0 _ rfl
      obtain ⟨v1, y1, e1, k1, t1⟩ := hfs 1 _ rfl
      obtain ⟨v2, y2, e2, k2, t2⟩ := hfs 2 _ rfl
      obtain ⟨v3, y3, e3, k3, t3⟩ := hfs 3 _ rfl
      obtain ⟨v4, y4, e4, k4, t4⟩ := hfs 4 _ rfl
      obtain ⟨x0, g0, _, w0⟩ := DataW.trod_int Tryd.underlying5 t0
      obtain rfl : v0 = .int .u8 x0 := by simpa using g0
      obtain ⟨x1, g1, _, w1⟩ := DataW.trod_int Tryd.underlying35 t1
      obtain rfl : v1 = .int .u32 x1 := by simpa using g1
      obtain ⟨b1, b2⟩ := u32_bdx w1
      obtain ⟨E, rfl⟩ : ∃ E : Nat, x1 = E := ⟨x1.toNat, by omega⟩
      obtain ⟨A, n, c, l, rfl, hB, h1, h2⟩ := bytes_trod t2 (fun x hx => hlt x (by
        refine List.mem_append_right _ (List.mem_flatMap.2 ⟨i, List.mem_range.2 (by omega), ?_⟩)
        rw [hP]
        exact List.mem_flatMap.2 ⟨y2, List.mem_of_getElem? k2, hx⟩))
      obtain ⟨x3, g3, _, w3⟩ := DataW.trod_int Tryd.underlying3 t3
      obtain rfl : v3 = .int .i64 x3 := by simpa using g3
      obtain ⟨x4, g4, _, w4⟩ := DataW.trod_int Tryd.underlying3 t4
      obtain rfl : v4 = .int .i64 x4 := by simpa using g4
      exact ⟨⟨x0, E, A, n, c, l, x3, x4⟩, ⟨(show E < 4294967296 by omega), h1, h2, (i64_bd w3).2, u8_bdx w0⟩, e0, e1, e2, e3, e4, hB⟩
    have pick : ∃ f : Nat → ActM, ∀ i, i < len → (f i).ok ∧ W.cell? (a.add (i * 5 + 0)) = some (.int .u8 (f i).k) ∧ W.cell? (a.add (i * 5 + 1)) = some (.int .u32 ((f i).e : Int)) ∧ W.cell? (a.add (i * 5 + 2)) = some (.slice (f i).A (f i).m (f i).c) ∧ W.cell? (a.add (i * 5 + 3)) = some (.int .i64 (f i).n) ∧ W.cell? (a.add (i * 5 + 4)) = some (.int .i64 (f i).b) ∧ BytesAt W (f i).A (f i).m (f i).d :=
      ⟨fun i => if h : i < len then Classical.choose (key i h) else ⟨0, 0, none, 0, 0, [], 0, 0⟩, fun i h => by simp only [dif_pos h]; exact Classical.choose_spec (key i h)⟩
    obtain ⟨f, hfp⟩ := pick
    refine ⟨_, _, _, (List.range len).map f, rfl, ⟨by simp, fun hn => ?_⟩, by omega⟩
    obtain ⟨b, off, spot⟩ := a
    have hspot : spot = none := by simpa [Addr.add] using World.cell?_spot (hfp 0 hn).2.1
    subst hspot
    refine ⟨b, off, rfl, hlt (.cell b off) (List.mem_append_left _ (MemPlace.mem_row.2 ⟨0, by simp; omega, by simp⟩)), fun i hi => ?_⟩
    have hi2 : i < len := by simpa using hi
    obtain ⟨q0, q1, q2, q3, q4, q5, q6⟩ := hfp i hi2
    simp only [add_plain] at q1 q2 q3 q4 q5
    simp only [List.getElem_map, List.getElem_range]
    exact ⟨by simpa using q1, by simpa [Nat.add_assoc] using q2, by simpa [Nat.add_assoc] using q3, by simpa [Nat.add_assoc] using q4, by simpa [Nat.add_assoc] using q5, q6, q0⟩
end
end Go.Proofs.YthhpilkhcomhbaaDoor
