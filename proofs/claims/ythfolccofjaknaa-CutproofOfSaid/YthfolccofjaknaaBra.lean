/- The reference's lists of digits of 16 bits; the zeros at their end. -/
import Derived.Test.YthfolccofjaknaaMB
import Derived.Test.YthfolccofjaknaaMA
import Derived.Deep.Cut
namespace Go.Proofs.Ythfolccofjaknaa
open Go.ChangeShapes Go.WideShapes Go.ChangeAt Go.RowKit Go.ChangeMaps


def sLen : Value → Nat
  | .slice _ n _ => n
  | _ => 0
def hcl (L : List Nat) : List Value := L.map fun (d : Nat) => Value.int .i64 (d : Int)
theorem hcl_len (L : List Nat) : (hcl L).length = L.length := by simp [hcl]
theorem hcl_get {L : List Nat} {i d : Nat} (h : L[i]? = some d) : (hcl L)[i]? = some (.int .i64 (d : Int)) := by simp [hcl, h]
theorem hcl_one (L : List Nat) : ∀ u ∈ hcl L, u.oneCell' = true := by
  intro u hu
  obtain ⟨x, _, rfl⟩ := List.mem_map.1 hu
  rfl
/-- A list of 16-bit digits that can be read. -/
def HG (w : World) (A : Option Addr) (n : Nat) (L : List Nat) : Prop := L.length = n ∧ dok 65536 L ∧ (0 < n → ∃ b off, A = some ⟨b, off, none⟩ ∧ b < w.heap.size ∧ ∀ (j d : Nat), L[j]? = some d → w.cell? ⟨b, off + j, none⟩ = some (.int .i64 (d : Int)))
theorem HG.below {w w' : World} {A : Option Addr} {n : Nat} {L : List Nat} (h : HG w A n L) (hb : Below w.heap.size w w') : HG w' A n L :=
  ⟨h.1, h.2.1, fun hn => by obtain ⟨b, off, e, hl, hc⟩ := h.2.2 hn; exact ⟨b, off, e, Nat.lt_of_lt_of_le hl hb.size, fun j d hd => keepcell hb (hc j d hd)⟩⟩
theorem HG.take {w : World} {A : Option Addr} {n k : Nat} {L : List Nat} (h : HG w A n L) (hk : k ≤ n) : HG w A k (L.take k) :=
  ⟨by rw [List.length_take, h.1]; omega, dok_take h.2.1 k, fun h0 => by
    obtain ⟨b, off, e, hl, hc⟩ := h.2.2 (by omega)
    exact ⟨b, off, e, hl, fun j d hd => hc j d (by rw [List.getElem?_take] at hd; split at hd; exact hd; cases hd)⟩⟩
theorem HG.at {w : World} {A : Option Addr} {n : Nat} {L : List Nat} (h : HG w A n L) (hn : 0 < n) : ∃ b off, A = some ⟨b, off, none⟩ ∧ b < w.heap.size ∧ ∀ (W : World), Below w.heap.size w W → ∀ (j d : Nat), L[j]? = some d → W.cell? ⟨b, off + j, none⟩ = some (.int .i64 (d : Int)) := by
  obtain ⟨b, off, e, hl, hc⟩ := h.2.2 hn
  exact ⟨b, off, e, hl, fun W hW j d hd => keepcell hW (hc j d hd)⟩
/-- A list without zeros at its end that stands for x. -/
def HV (w : World) (v : Value) (x N : Nat) : Prop := ∃ A n c L, v = .slice A n c ∧ HG w A n L ∧ Sl A n c ∧ nmz L ∧ dv 65536 L = x ∧ n ≤ N
theorem HV.below {w w' : World} {v : Value} {x N : Nat} (h : HV w v x N) (hb : Below w.heap.size w w') : HV w' v x N := by
  obtain ⟨A, n, c, L, e, hg, hs, hn, hv, hN⟩ := h
  exact ⟨A, n, c, L, e, hg.below hb, hs, hn, hv, hN⟩
theorem HV.mono {w : World} {v : Value} {x N M : Nat} (h : HV w v x N) (hM : N ≤ M) : HV w v x M := by
  obtain ⟨A, n, c, L, e, hg, hs, hn, hv, hN⟩ := h
  exact ⟨A, n, c, L, e, hg, hs, hn, hv, Nat.le_trans hN hM⟩
/-- An own row of 16-bit digits. -/
theorem own_hg {w : World} {base n : Nat} {v : Value} {L : List Nat} (h : w.ownsRow base 3 1 v n (hcl L)) (hd : dok 65536 L) : ∃ A c, v = .slice A n c ∧ HG w A n L ∧ Sl A n c := by
  have hl : L.length = n := by have := h.1; rw [hcl_len] at this; omega
  rcases h.2 with ⟨rfl, rfl⟩ | ⟨g, cap, cur, rfl, hg, hh, hn, hcap, hcs, ht⟩
  · exact ⟨none, 0, rfl, ⟨hl, hd, fun h => absurd h (Nat.lt_irrefl 0)⟩, Sl.nil⟩
  · refine ⟨_, _, rfl, ⟨hl, hd, fun _ => ⟨g, 0, rfl, (show Blk w g 3 cur from hh).lt, fun j d hj => ?_⟩⟩, Sl.own hn hcap⟩
    have := World.ownsRow.cellAt h j (by have := (List.getElem?_eq_some_iff.1 hj).1; omega)
    rw [Nat.zero_add, this]
    exact hcl_get hj
theorem own_new {w : World} {base : Nat} (hb : base ≤ w.heap.size) : (w.alloc (.cells #[] 3)).ownsRow base 3 1 (.slice (some ⟨w.heap.size, 0, none⟩) 0 0) 0 (hcl []) :=
  ⟨rfl, .inr ⟨w.heap.size, 0, #[], rfl, hb, Blk.new _ _ _, Nat.le_refl _, Nat.zero_le _, rfl, rfl⟩⟩
theorem hg_src {w : World} {A : Option Addr} {n c : Nat} {L : List Nat} (h : HG w A n L) : Src Try.prog 1 88 (.slice A n c) n (hcl L) w := by
  rcases Nat.eq_zero_or_pos n with h0 | h0
  · subst h0
    obtain rfl : L = [] := List.eq_nil_of_length_eq_zero h.1
    cases A with
    | none => exact Src.ofNil _ Try.underlying88 c
    | some a => exact Src.ofSlice _ Try.underlying88 a 0 c [] rfl (fun j u hu => by simp at hu) (fun u hu => by cases hu)
  · obtain ⟨b, off, rfl, hl, hc⟩ := h.2.2 h0
    refine Src.ofSlice _ Try.underlying88 _ n c (hcl L) (by rw [hcl_len, h.1, Nat.mul_one]) (fun j u hu => ?_) (hcl_one L)
    rw [add_plain]
    simp only [hcl, List.getElem?_map, Option.map_eq_some_iff] at hu
    obtain ⟨d, hd, rfl⟩ := hu
    exact hc j d hd
theorem snoc_carry {B : Nat} (R : List Nat) (i c y t x : Nat) (hR : R.length = i) (ht : t = c + y) (h : dv B R + B ^ i * c = x) : dv B (R ++ [t % B]) + B ^ (i + 1) * (t / B) = x + B ^ i * y := by
  rw [dv_app, hR]
  have h1 := carry_step B (B ^ i) (dv B R) c x y t ht h
  rw [Nat.pow_succ]
  simp only [dv, Nat.mul_zero, Nat.add_zero]
  exact h1
set_option maxRecDepth 100000 in
set_option maxHeartbeats 2000000 in
theorem rtrim_at (A : Option Addr) (n c : Nat) (L : List Nat) (w : World) (h : HG w A n L) (hs : Sl A n c) : Calls Try.prog 81 #[.slice A n c] w fun e w' => (∃ v, e = .returned v ∧ HV w v (dv 65536 L) n ∧ ∃ k, v = .slice A k c) ∧ w' = w := by
  have HA := Lib.hid h.at
  have HL := Lib.hid h.1
  have HH := Lib.hid h
  have HS := Lib.hid hs
  obtain ⟨hnc, hc, _, _⟩ := hs
  clear h
  go_enter Try.func81, Try.ntmps81
  go_wp2
  go_loopw [0] (fun s0 wr => ∃ k : Nat, s0 = .slice A k c ∧ k ≤ n ∧ wr = w ∧ (∀ (j d : Nat), k ≤ j → L[j]? = some d → d = 0)) (fun s0 _ => sLen s0)
  case atStart => exact ⟨n, rfl, Nat.le_refl _, rfl, fun j d hj hd => by have := (List.getElem?_eq_some_iff.1 hd).1; have := HL.out; omega⟩
  case round =>
    obtain ⟨k, rfl, hkn, rfl, hz⟩ := hrel
    have HZ := Lib.hid hz
    clear hz
    by_cases h0 : k = 0
    · subst h0
      go_wp2
      go_ret
      have ht : TrimTo L 0 := ⟨Nat.zero_le _, HZ.out, fun d h => by omega⟩
      exact ⟨⟨_, rfl, ⟨A, 0, c, L.take 0, rfl, HH.out.take (Nat.zero_le _), HS.out.take (Nat.zero_le _), ht.nmz, ht.dv _, Nat.zero_le _⟩, _, rfl⟩, rfl⟩
    · obtain ⟨j, hj⟩ : ∃ j : Nat, k = j + 1 := ⟨k - 1, by omega⟩
      have hij : (k : Int) - 1 = (j : Int) := by omega
      have hgt : (0 : Int) < (k : Int) := by omega
      have hjn : (j : Int) < n := by omega
      have hjk : (j : Int) < k := by omega
      obtain ⟨b, off, rfl, hbl, hcell⟩ := HA.out (by omega)
      obtain ⟨d, hd⟩ : ∃ d, L[j]? = some d := ⟨_, List.getElem?_eq_getElem (by have := HL.out; omega)⟩
      have c0 := hcell wr (Below.refl _ _) j d hd
      have HDd := Lib.hid hd
      have HJ := Lib.hid hj
      clear hcell hd hj
      by_cases hd0 : d = 0
      · subst hd0
        go_wp2
        go_roundw
        case rel => exact ⟨j, rfl, by have := HJ.out; omega, by first | rfl | trivial, fun i d hi hd => by
          by_cases e : i = j
          · subst e; rw [HDd.out] at hd; cases hd; rfl
          · exact HZ.out i d (by have := HJ.out; omega) hd⟩
        case measure => simp only [sLen]; have := HJ.out; omega
      · have e0 : ((d : Int) == 0) = false := by simp; omega
        go_wp2
        go_ret
        have ht : TrimTo L k := ⟨by have := HL.out; omega, HZ.out, fun x _ hx => by rw [HJ.out] at hx; simp only [Nat.add_sub_cancel] at hx; rw [HDd.out] at hx; cases hx; exact hd0⟩
        exact ⟨⟨_, rfl, ⟨_, k, c, L.take k, rfl, HH.out.take hkn, HS.out.take hkn, ht.nmz, ht.dv _, hkn⟩, _, rfl⟩, by first | rfl | trivial⟩

theorem rtrim_any (A : Option Addr) (n c : Nat) (L : List Nat) (w : World) (h : HG w A n L) (hs : Sl A n c) : Calls Try.prog 81 #[.slice A n c] w fun e w' => (∃ v, e = .returned v ∧ HV w v (dv 65536 L) n) ∧ w' = w := by
  refine (rtrim_at A n c L w h hs).mono ?_
  rintro e w' ⟨⟨v, rfl, hv, _⟩, hy⟩
  exact ⟨⟨v, rfl, hv⟩, hy⟩
set_option maxRecDepth 100000 in
set_option maxHeartbeats 4000000 in
theorem plus_any (A : Option Addr) (n c : Nat) (L : List Nat) (A2 : Option Addr) (m c2 : Nat) (M : List Nat) (w : World) (h : HG w A n L) (h2 : HG w A2 m M) (hn : n ≤ 10000000) (hm : m ≤ 10000000) : Calls Try.prog 67 #[.slice A n c, .slice A2 m c2] w fun e w' => ∃ v, e = .returned v ∧ HV w' v (dv 65536 L + dv 65536 M) (max n m + 1) ∧ Below w.heap.size w w' := by
  obtain ⟨i0, hi, hz0, hz1, hz2⟩ := info_parts (show (Try.prog.info? 3).map (fun i => (i.zero, i.size, i.bytes)) = some (some (.int .i64 0), 1, 8) by kernel_rfl)
  have HA := Lib.hid h.at
  have HA2 := Lib.hid h2.at
  have HL := Lib.hid h.1
  have HM := Lib.hid h2.1
  have HKL := Lib.hid h.2.1
  have HKM := Lib.hid h2.2.1
  clear h h2
  obtain ⟨B0, hw0⟩ : ∃ V, V = w.heap.size := ⟨_, rfl⟩
  obtain ⟨W1, hW1⟩ : ∃ V, V = w.alloc (.cells #[] 3) := ⟨_, rfl⟩
  have HO1 := Lib.hid (show W1.ownsRow B0 3 1 (.slice (some ⟨w.heap.size, 0, none⟩) 0 0) 0 (hcl []) by rw [hW1, hw0]; exact own_new (Nat.le_refl _))
  have HB1 := Lib.hid (show Below B0 w W1 by rw [hW1, hw0]; exact (Below.refl _ w).alloc (Nat.le_refl _) _)
  have SZ1 := Lib.hid (show B0 ≤ W1.heap.size by rw [hW1, hw0]; simp)
  have HW0 := Lib.hid hw0
  clear hw0
  go_enter Try.func67, Try.ntmps67
  go_wp2
  rw [← hW1]
  clear hW1
  go_loopw [5, 6, 7] (fun s5 s6 s7 wr => ∃ (i k : Nat) (R : List Nat) (A5 : Option Addr) (c5 : Nat), s5 = .slice A5 i c5 ∧ s6 = .int .i64 (k : Int) ∧ s7 = .int .i64 (i : Int) ∧ i ≤ max n m + 1 ∧ k ≤ 1 ∧ (max n m < i → k = 0) ∧ R.length = i ∧ dok 65536 R ∧ dv 65536 R + 65536 ^ i * k = dv 65536 (L.take i) + dv 65536 (M.take i) ∧ wr.ownsRow B0 3 1 (.slice A5 i c5) i (hcl R) ∧ Below B0 w wr ∧ B0 ≤ wr.heap.size) (fun _ _ s7 _ => max n m + 2 - (intOf s7).toNat)
  case atStart => exact ⟨0, 0, [], _, _, rfl, rfl, rfl, by omega, by omega, by omega, rfl, dok_nil _, by simp [dv], HO1.out, HB1.out, SZ1.out⟩
  case round =>
    obtain ⟨i, k, R, A5, c5, rfl, rfl, rfl, hi1, hk, hk0, hRl, hRd, hinv, ho, hb, hsz⟩ := hrel
    have HI := Lib.hid hinv
    have HR := Lib.hid hRd
    have HRL := Lib.hid hRl
    have HOW := Lib.hid ho
    have HBW := Lib.hid hb
    have SZ := Lib.hid hsz
    have HK0 := Lib.hid hk0
    have HBw := Lib.hid (show Below w.heap.size w wr by have h := HBW.out; rw [HW0.out] at h; exact h)
    clear hinv hRd hRl ho hb hk0 HO1 HB1 hsz
    obtain ⟨d, hd⟩ : ∃ d, L.getD i 0 = d := ⟨_, rfl⟩
    obtain ⟨e, he⟩ : ∃ e, M.getD i 0 = e := ⟨_, rfl⟩
    have hdB : d < 65536 := by rw [← hd]; exact getD_lt (by decide) HKL.out i
    have heB : e < 65536 := by rw [← he]; exact getD_lt (by decide) HKM.out i
    have HDL := Lib.hid hd
    have HDM := Lib.hid he
    have hkI : (k : Int) ≤ 1 := by omega
    clear hd he
    rcases Nat.lt_or_ge i n with h1 | h1
    · have h1I : (i : Int) < (n : Int) := by omega
      obtain ⟨b, off, rfl, hbl, hcell⟩ := HA.out (by omega)
      have c0 := hcell wr HBw.out i d (by have := HDL.out; rw [← this, List.getD_eq_getElem?_getD, List.getElem?_eq_getElem (by rw [HL.out]; exact h1)]; rfl)
      clear hcell
      rcases Nat.lt_or_ge i m with h2 | h2
      · have h2I : (i : Int) < (m : Int) := by omega
        obtain ⟨b2, off2, rfl, hbl2, hcell2⟩ := HA2.out (by omega)
        have c02 := hcell2 wr HBw.out i e (by have := HDM.out; rw [← this, List.getD_eq_getElem?_getD, List.getElem?_eq_getElem (by rw [HM.out]; exact h2)]; rfl)
        clear hcell2
        obtain ⟨t, ht⟩ : ∃ t, t = k + d + e := ⟨_, rfl⟩
        have htI : (k : Int) + (d : Int) + (e : Int) = (t : Int) := by omega
        have htB : t ≤ 20000000 := by omega
        have htBI : (t : Int) ≤ 20000000 := by omega
        have hcm : (((t : Nat) : Int) % 65536) = (((t % 65536 : Nat)) : Int) := by omega
        have hcmt : (((t : Nat) : Int).tmod 65536) = (((t % 65536 : Nat)) : Int) := by rw [Int.tmod_eq_emod_of_nonneg (by omega)]; omega
        have hct : (((t : Nat) : Int).tdiv 65536) = (((t / 65536 : Nat)) : Int) := by rw [Int.tdiv_eq_ediv_of_nonneg (by omega)]; omega
        obtain ⟨lo, hlo⟩ : ∃ lo, t % 65536 = lo := ⟨_, rfl⟩
        obtain ⟨hi', hhi⟩ : ∃ hi', t / 65536 = hi' := ⟨_, rfl⟩
        rw [hlo] at hcm hcmt
        rw [hhi] at hct
        have hlo1 : lo < 65536 := by omega
        have hhi1 : hi' ≤ 1 := by omega
        have hhi0 : t < 65536 → hi' = 0 := by omega
        have HST := Lib.hid (show dv 65536 (R ++ [lo]) + 65536 ^ (i + 1) * hi' = dv 65536 (L.take (i + 1)) + dv 65536 (M.take (i + 1)) from by
          rw [← hlo, ← hhi]
          have h1 := snoc_carry R i k (d + e) t _ HRL.out (by omega) HI.out
          rw [h1, dv_take_getD, dv_take_getD, HDL.out, HDM.out, Nat.mul_add]
          omega)
        have HDK := Lib.hid (show dok 65536 (R ++ [lo]) from dok_app.2 ⟨HR.out, fun x hx => by obtain rfl : x = lo := (by simpa using hx); omega⟩)
        have HRL2 := Lib.hid (show (R ++ [lo]).length = i + 1 by rw [List.length_append, HRL.out]; rfl)
        have HZ0 := Lib.hid hhi0
        have HH1 := Lib.hid hhi1
        have hhiI : (hi' : Int) ≤ 1 := by omega
        clear hlo hhi hhi0 hlo1 hhi1 ht
        obtain ⟨W3, hW3⟩ : ∃ V, V = wr.alloc (.cells #[.int .i64 ((lo : Nat) : Int)] 3) := ⟨_, rfl⟩
        have HO3 := Lib.hid (show W3.ownsRow B0 3 1 (.slice A5 i c5) i (hcl R) by rw [hW3]; exact HOW.out.alloc _)
        have HB3 := Lib.hid (show Below B0 _ W3 by rw [hW3]; exact HBW.out.alloc SZ.out _)
        have SZ3 := Lib.hid (show B0 ≤ W3.heap.size by rw [hW3]; have := SZ.out; simp; omega)
        have HN3 : Hid (Src Try.prog 1 88 (.slice (some ⟨wr.heap.size, 0, none⟩) 1 1) 1 [.int .i64 ((lo : Nat) : Int)] W3) := Lib.hid (src_blk (c := 1) Try.underlying88 rfl (by intro u hu; simp at hu; rcases hu with rfl | rfl <;> rfl) (show Blk W3 wr.heap.size 3 (List.toArray [.int .i64 ((lo : Nat) : Int)]) by rw [hW3]; exact Blk.new _ _ _))
        subst hW3
        go_wp2_with (at_builtin; go_loud (refine wpList_append_src _ rfl _ _ 88 88 rfl B0 3 i0 _ 1 8 Try.underlying88 hi hz0 hz1 hz2 rfl (.slice A5 i c5) i _ rfl HO3.out _ 1 _ rfl HN3.out ?c1 ?c2 SZ3.out ?_))
        case c1 => unfold maxLen; omega
        case c2 => omega
        intro v' w6 own' hg _
        have HOF := Lib.hid (show w6.ownsRow B0 3 1 v' (i + 1) (hcl (R ++ [lo])) by
          rw [show hcl (R ++ [lo]) = hcl R ++ [.int .i64 ((lo : Nat) : Int)] by simp [hcl]]
          exact own')
        have HBF := Lib.hid (show Below B0 _ w6 from HB3.out.grown hg SZ3.out (fun j hj => (HO3.out.lt j hj).1))
        obtain ⟨A6, a6, rfl, -⟩ := At.of_own own'
        have SZ6 := Lib.hid (Nat.le_trans SZ3.out hg.size)
        clear own' hg HO3 HB3 HN3 SZ3
        go_wp2
        go_roundw
        case rel => exact ⟨i + 1, hi', R ++ [lo], A6, a6, rfl, rfl, by go_num, by omega, HH1.out, (fun h => HZ0.out (by omega)), HRL2.out, HDK.out, HST.out, HOF.out, HBF.out, SZ6.out⟩
        case measure => simp only [intOf]; omega
      · have h2I : ¬ (i : Int) < (m : Int) := by omega
        obtain rfl : e = 0 := by rw [← HDM.out]; simp [List.getD, List.getElem?_eq_none_iff.2 (show M.length ≤ i by rw [HM.out]; exact h2)]
        obtain ⟨t, ht⟩ : ∃ t, t = k + d + 0 := ⟨_, rfl⟩
        have htI : (k : Int) + (d : Int) = (t : Int) := by omega
        have htB : t ≤ 20000000 := by omega
        have htBI : (t : Int) ≤ 20000000 := by omega
        have hcm : (((t : Nat) : Int) % 65536) = (((t % 65536 : Nat)) : Int) := by omega
        have hcmt : (((t : Nat) : Int).tmod 65536) = (((t % 65536 : Nat)) : Int) := by rw [Int.tmod_eq_emod_of_nonneg (by omega)]; omega
        have hct : (((t : Nat) : Int).tdiv 65536) = (((t / 65536 : Nat)) : Int) := by rw [Int.tdiv_eq_ediv_of_nonneg (by omega)]; omega
        obtain ⟨lo, hlo⟩ : ∃ lo, t % 65536 = lo := ⟨_, rfl⟩
        obtain ⟨hi', hhi⟩ : ∃ hi', t / 65536 = hi' := ⟨_, rfl⟩
        rw [hlo] at hcm hcmt
        rw [hhi] at hct
        have hlo1 : lo < 65536 := by omega
        have hhi1 : hi' ≤ 1 := by omega
        have hhi0 : t < 65536 → hi' = 0 := by omega
        have HST := Lib.hid (show dv 65536 (R ++ [lo]) + 65536 ^ (i + 1) * hi' = dv 65536 (L.take (i + 1)) + dv 65536 (M.take (i + 1)) from by
          rw [← hlo, ← hhi]
          have h1 := snoc_carry R i k (d + 0) t _ HRL.out (by omega) HI.out
          rw [h1, dv_take_getD, dv_take_getD, HDL.out, HDM.out, Nat.mul_add]
          omega)
        have HDK := Lib.hid (show dok 65536 (R ++ [lo]) from dok_app.2 ⟨HR.out, fun x hx => by obtain rfl : x = lo := (by simpa using hx); omega⟩)
        have HRL2 := Lib.hid (show (R ++ [lo]).length = i + 1 by rw [List.length_append, HRL.out]; rfl)
        have HZ0 := Lib.hid hhi0
        have HH1 := Lib.hid hhi1
        have hhiI : (hi' : Int) ≤ 1 := by omega
        clear hlo hhi hhi0 hlo1 hhi1 ht
        obtain ⟨W3, hW3⟩ : ∃ V, V = wr.alloc (.cells #[.int .i64 ((lo : Nat) : Int)] 3) := ⟨_, rfl⟩
        have HO3 := Lib.hid (show W3.ownsRow B0 3 1 (.slice A5 i c5) i (hcl R) by rw [hW3]; exact HOW.out.alloc _)
        have HB3 := Lib.hid (show Below B0 _ W3 by rw [hW3]; exact HBW.out.alloc SZ.out _)
        have SZ3 := Lib.hid (show B0 ≤ W3.heap.size by rw [hW3]; have := SZ.out; simp; omega)
        have HN3 : Hid (Src Try.prog 1 88 (.slice (some ⟨wr.heap.size, 0, none⟩) 1 1) 1 [.int .i64 ((lo : Nat) : Int)] W3) := Lib.hid (src_blk (c := 1) Try.underlying88 rfl (by intro u hu; simp at hu; rcases hu with rfl | rfl <;> rfl) (show Blk W3 wr.heap.size 3 (List.toArray [.int .i64 ((lo : Nat) : Int)]) by rw [hW3]; exact Blk.new _ _ _))
        subst hW3
        go_wp2_with (at_builtin; go_loud (refine wpList_append_src _ rfl _ _ 88 88 rfl B0 3 i0 _ 1 8 Try.underlying88 hi hz0 hz1 hz2 rfl (.slice A5 i c5) i _ rfl HO3.out _ 1 _ rfl HN3.out ?c1 ?c2 SZ3.out ?_))
        case c1 => unfold maxLen; omega
        case c2 => omega
        intro v' w6 own' hg _
        have HOF := Lib.hid (show w6.ownsRow B0 3 1 v' (i + 1) (hcl (R ++ [lo])) by
          rw [show hcl (R ++ [lo]) = hcl R ++ [.int .i64 ((lo : Nat) : Int)] by simp [hcl]]
          exact own')
        have HBF := Lib.hid (show Below B0 _ w6 from HB3.out.grown hg SZ3.out (fun j hj => (HO3.out.lt j hj).1))
        obtain ⟨A6, a6, rfl, -⟩ := At.of_own own'
        have SZ6 := Lib.hid (Nat.le_trans SZ3.out hg.size)
        clear own' hg HO3 HB3 HN3 SZ3
        go_wp2
        go_roundw
        case rel => exact ⟨i + 1, hi', R ++ [lo], A6, a6, rfl, rfl, by go_num, by omega, HH1.out, (fun h => HZ0.out (by omega)), HRL2.out, HDK.out, HST.out, HOF.out, HBF.out, SZ6.out⟩
        case measure => simp only [intOf]; omega
    · have h1I : ¬ (i : Int) < (n : Int) := by omega
      obtain rfl : d = 0 := by rw [← HDL.out]; simp [List.getD, List.getElem?_eq_none_iff.2 (show L.length ≤ i by rw [HL.out]; exact h1)]
      rcases Nat.lt_or_ge i m with h2 | h2
      · have h2I : (i : Int) < (m : Int) := by omega
        obtain ⟨b2, off2, rfl, hbl2, hcell2⟩ := HA2.out (by omega)
        have c02 := hcell2 wr HBw.out i e (by have := HDM.out; rw [← this, List.getD_eq_getElem?_getD, List.getElem?_eq_getElem (by rw [HM.out]; exact h2)]; rfl)
        clear hcell2
        obtain ⟨t, ht⟩ : ∃ t, t = k + 0 + e := ⟨_, rfl⟩
        have htI : (k : Int) + (e : Int) = (t : Int) := by omega
        have htB : t ≤ 20000000 := by omega
        have htBI : (t : Int) ≤ 20000000 := by omega
        have hcm : (((t : Nat) : Int) % 65536) = (((t % 65536 : Nat)) : Int) := by omega
        have hcmt : (((t : Nat) : Int).tmod 65536) = (((t % 65536 : Nat)) : Int) := by rw [Int.tmod_eq_emod_of_nonneg (by omega)]; omega
        have hct : (((t : Nat) : Int).tdiv 65536) = (((t / 65536 : Nat)) : Int) := by rw [Int.tdiv_eq_ediv_of_nonneg (by omega)]; omega
        obtain ⟨lo, hlo⟩ : ∃ lo, t % 65536 = lo := ⟨_, rfl⟩
        obtain ⟨hi', hhi⟩ : ∃ hi', t / 65536 = hi' := ⟨_, rfl⟩
        rw [hlo] at hcm hcmt
        rw [hhi] at hct
        have hlo1 : lo < 65536 := by omega
        have hhi1 : hi' ≤ 1 := by omega
        have hhi0 : t < 65536 → hi' = 0 := by omega
        have HST := Lib.hid (show dv 65536 (R ++ [lo]) + 65536 ^ (i + 1) * hi' = dv 65536 (L.take (i + 1)) + dv 65536 (M.take (i + 1)) from by
          rw [← hlo, ← hhi]
          have h1 := snoc_carry R i k (0 + e) t _ HRL.out (by omega) HI.out
          rw [h1, dv_take_getD, dv_take_getD, HDL.out, HDM.out, Nat.mul_add]
          omega)
        have HDK := Lib.hid (show dok 65536 (R ++ [lo]) from dok_app.2 ⟨HR.out, fun x hx => by obtain rfl : x = lo := (by simpa using hx); omega⟩)
        have HRL2 := Lib.hid (show (R ++ [lo]).length = i + 1 by rw [List.length_append, HRL.out]; rfl)
        have HZ0 := Lib.hid hhi0
        have HH1 := Lib.hid hhi1
        have hhiI : (hi' : Int) ≤ 1 := by omega
        clear hlo hhi hhi0 hlo1 hhi1 ht
        obtain ⟨W3, hW3⟩ : ∃ V, V = wr.alloc (.cells #[.int .i64 ((lo : Nat) : Int)] 3) := ⟨_, rfl⟩
        have HO3 := Lib.hid (show W3.ownsRow B0 3 1 (.slice A5 i c5) i (hcl R) by rw [hW3]; exact HOW.out.alloc _)
        have HB3 := Lib.hid (show Below B0 _ W3 by rw [hW3]; exact HBW.out.alloc SZ.out _)
        have SZ3 := Lib.hid (show B0 ≤ W3.heap.size by rw [hW3]; have := SZ.out; simp; omega)
        have HN3 : Hid (Src Try.prog 1 88 (.slice (some ⟨wr.heap.size, 0, none⟩) 1 1) 1 [.int .i64 ((lo : Nat) : Int)] W3) := Lib.hid (src_blk (c := 1) Try.underlying88 rfl (by intro u hu; simp at hu; rcases hu with rfl | rfl <;> rfl) (show Blk W3 wr.heap.size 3 (List.toArray [.int .i64 ((lo : Nat) : Int)]) by rw [hW3]; exact Blk.new _ _ _))
        subst hW3
        go_wp2_with (at_builtin; go_loud (refine wpList_append_src _ rfl _ _ 88 88 rfl B0 3 i0 _ 1 8 Try.underlying88 hi hz0 hz1 hz2 rfl (.slice A5 i c5) i _ rfl HO3.out _ 1 _ rfl HN3.out ?c1 ?c2 SZ3.out ?_))
        case c1 => unfold maxLen; omega
        case c2 => omega
        intro v' w6 own' hg _
        have HOF := Lib.hid (show w6.ownsRow B0 3 1 v' (i + 1) (hcl (R ++ [lo])) by
          rw [show hcl (R ++ [lo]) = hcl R ++ [.int .i64 ((lo : Nat) : Int)] by simp [hcl]]
          exact own')
        have HBF := Lib.hid (show Below B0 _ w6 from HB3.out.grown hg SZ3.out (fun j hj => (HO3.out.lt j hj).1))
        obtain ⟨A6, a6, rfl, -⟩ := At.of_own own'
        have SZ6 := Lib.hid (Nat.le_trans SZ3.out hg.size)
        clear own' hg HO3 HB3 HN3 SZ3
        go_wp2
        go_roundw
        case rel => exact ⟨i + 1, hi', R ++ [lo], A6, a6, rfl, rfl, by go_num, by omega, HH1.out, (fun h => HZ0.out (by omega)), HRL2.out, HDK.out, HST.out, HOF.out, HBF.out, SZ6.out⟩
        case measure => simp only [intOf]; omega
      · have h2I : ¬ (i : Int) < (m : Int) := by omega
        obtain rfl : e = 0 := by rw [← HDM.out]; simp [List.getD, List.getElem?_eq_none_iff.2 (show M.length ≤ i by rw [HM.out]; exact h2)]
        rcases Nat.eq_zero_or_pos k with h3 | h3
        · subst h3
          have HX := Lib.hid (show dv 65536 R = dv 65536 L + dv 65536 M from by
            have h4 := HI.out
            rw [List.take_of_length_le (by rw [HL.out]; exact h1), List.take_of_length_le (by rw [HM.out]; exact h2)] at h4
            omega)
          obtain ⟨A6, c6, e6, hg6, hs6⟩ := own_hg HOW.out HR.out
          injection e6 with eA _ ec
          subst eA
          subst ec
          have CT := Lib.hid (rtrim_any A5 i c5 R wr hg6 hs6)
          rw [HX.out] at CT
          clear hg6 hs6
          go_wp2_with fail
          refine CT.out.mono ?_
          rintro e w7 ⟨⟨v, rfl, hv⟩, hy⟩
          replace hy := hy.symm
          subst hy
          have HV7 := Lib.hid (hv.mono hi1)
          clear hv CT
          go_wp2
          go_ret
          exact ⟨_, rfl, HV7.out, HBw.out⟩
        · have h3I : (0 : Int) < (k : Int) := by omega
          have him : i ≤ max n m := by
            rcases Nat.lt_or_ge (max n m) i with h5 | h5
            · have := HK0.out h5; omega
            · exact h5
          obtain rfl : k = 1 := by omega
          have HST := Lib.hid (show dv 65536 (R ++ [1]) + 65536 ^ (i + 1) * 0 = dv 65536 (L.take (i + 1)) + dv 65536 (M.take (i + 1)) from by
            have h1 := snoc_carry R i 1 0 1 _ HRL.out rfl HI.out
            rw [dv_take_getD, dv_take_getD, HDL.out, HDM.out]
            simpa using h1)
          have HDK := Lib.hid (show dok 65536 (R ++ [1]) from dok_app.2 ⟨HR.out, fun x hx => by obtain rfl : x = 1 := (by simpa using hx); omega⟩)
          have HRL2 := Lib.hid (show (R ++ [1]).length = i + 1 by rw [List.length_append, HRL.out]; rfl)
          clear h3I
          have h3I : (0 : Int) < 1 := by decide
          obtain ⟨W3, hW3⟩ : ∃ V, V = wr.alloc (.cells #[.int .i64 1] 3) := ⟨_, rfl⟩
          have HO3 := Lib.hid (show W3.ownsRow B0 3 1 (.slice A5 i c5) i (hcl R) by rw [hW3]; exact HOW.out.alloc _)
          have HB3 := Lib.hid (show Below B0 _ W3 by rw [hW3]; exact HBW.out.alloc SZ.out _)
          have SZ3 := Lib.hid (show B0 ≤ W3.heap.size by rw [hW3]; have := SZ.out; simp; omega)
          have HN3 : Hid (Src Try.prog 1 88 (.slice (some ⟨wr.heap.size, 0, none⟩) 1 1) 1 [.int .i64 1] W3) := Lib.hid (src_blk (c := 1) Try.underlying88 rfl (by intro u hu; simp at hu; rcases hu with rfl | rfl <;> rfl) (show Blk W3 wr.heap.size 3 (List.toArray [.int .i64 1]) by rw [hW3]; exact Blk.new _ _ _))
          subst hW3
          go_wp2_with (at_builtin; go_loud (refine wpList_append_src _ rfl _ _ 88 88 rfl B0 3 i0 _ 1 8 Try.underlying88 hi hz0 hz1 hz2 rfl (.slice A5 i c5) i _ rfl HO3.out _ 1 _ rfl HN3.out ?c1 ?c2 SZ3.out ?_))
          case c1 => unfold maxLen; omega
          case c2 => omega
          intro v' w6 own' hg _
          have HOF := Lib.hid (show w6.ownsRow B0 3 1 v' (i + 1) (hcl (R ++ [1])) by
            rw [show hcl (R ++ [1]) = hcl R ++ [.int .i64 1] by simp [hcl]]
            exact own')
          have HBF := Lib.hid (show Below B0 _ w6 from HB3.out.grown hg SZ3.out (fun j hj => (HO3.out.lt j hj).1))
          obtain ⟨A6, a6, rfl, -⟩ := At.of_own own'
          have SZ6 := Lib.hid (Nat.le_trans SZ3.out hg.size)
          clear own' hg HO3 HB3 HN3 SZ3
          go_wp2
          go_roundw
          case rel => exact ⟨i + 1, 0, R ++ [1], A6, a6, rfl, rfl, by go_num, by omega, by omega, (fun _ => rfl), HRL2.out, HDK.out, HST.out, HOF.out, HBF.out, SZ6.out⟩
          case measure => simp only [intOf]; omega

/-- A row's block, if it has one, is not below the base. -/
def Fr (base : Nat) (v : Value) : Prop := ∀ b off n c, v = .slice (some ⟨b, off, none⟩) n c → base ≤ b
theorem own_fr {w : World} {base n : Nat} {A : Option Addr} {m c : Nat} {L : List Value} (h : w.ownsRow base 3 1 (.slice A n c) m L) (k : Nat) : Fr base (.slice A k c) := by
  intro b off n' c' e
  rcases h.2 with ⟨e1, -⟩ | ⟨g, cap, cur, e1, hg, -⟩
  · cases e
    cases e1
  · cases e
    cases e1
    exact hg
set_option maxRecDepth 100000 in
set_option maxHeartbeats 4000000 in
theorem minus_at (A : Option Addr) (n c : Nat) (L : List Nat) (A2 : Option Addr) (m c2 : Nat) (M : List Nat) (w : World) (h : HG w A n L) (h2 : HG w A2 m M) (hn : n ≤ 10000000) (hm : m ≤ n) (hle : dv 65536 M ≤ dv 65536 L) : Calls Try.prog 68 #[.slice A n c, .slice A2 m c2] w fun e w' => ∃ v, e = .returned v ∧ HV w' v (dv 65536 L - dv 65536 M) n ∧ Fr w.heap.size v ∧ Below w.heap.size w w' := by
  obtain ⟨i0, hi, hz0, hz1, hz2⟩ := info_parts (show (Try.prog.info? 3).map (fun i => (i.zero, i.size, i.bytes)) = some (some (.int .i64 0), 1, 8) by kernel_rfl)
  have HA := Lib.hid h.at
  have HA2 := Lib.hid h2.at
  have HL := Lib.hid h.1
  have HM := Lib.hid h2.1
  have HKL := Lib.hid h.2.1
  have HKM := Lib.hid h2.2.1
  have HLE := Lib.hid hle
  clear h h2 hle
  obtain ⟨B0, hw0⟩ : ∃ V, V = w.heap.size := ⟨_, rfl⟩
  obtain ⟨W1, hW1⟩ : ∃ V, V = w.alloc (.cells #[] 3) := ⟨_, rfl⟩
  have HO1 := Lib.hid (show W1.ownsRow B0 3 1 (.slice (some ⟨w.heap.size, 0, none⟩) 0 0) 0 (hcl []) by rw [hW1, hw0]; exact own_new (Nat.le_refl _))
  have HB1 := Lib.hid (show Below B0 w W1 by rw [hW1, hw0]; exact (Below.refl _ w).alloc (Nat.le_refl _) _)
  have SZ1 := Lib.hid (show B0 ≤ W1.heap.size by rw [hW1, hw0]; simp)
  have HW0 := Lib.hid hw0
  clear hw0
  go_enter Try.func68, Try.ntmps68
  go_wp2
  rw [← hW1]
  clear hW1
  go_loopw [5, 6, 7, 8] (fun s5 s6 s7 _ wr => ∃ (i k : Nat) (R : List Nat) (A5 : Option Addr) (c5 : Nat), s5 = .slice A5 i c5 ∧ s6 = .int .i64 (k : Int) ∧ s7 = .int .i64 (i : Int) ∧ i ≤ n ∧ k ≤ 1 ∧ R.length = i ∧ dok 65536 R ∧ dv 65536 R + dv 65536 (M.take i) = dv 65536 (L.take i) + 65536 ^ i * k ∧ wr.ownsRow B0 3 1 (.slice A5 i c5) i (hcl R) ∧ Below B0 w wr ∧ B0 ≤ wr.heap.size) (fun _ _ s7 _ _ => n + 1 - (intOf s7).toNat)
  case atStart => exact ⟨0, 0, [], _, _, rfl, rfl, rfl, by omega, by omega, rfl, dok_nil _, by simp [dv], HO1.out, HB1.out, SZ1.out⟩
  case round =>
    obtain ⟨i, k, R, A5, c5, rfl, rfl, rfl, hi1, hk, hRl, hRd, hinv, ho, hb, hsz⟩ := hrel
    have HI := Lib.hid hinv
    have HR := Lib.hid hRd
    have HRL := Lib.hid hRl
    have HOW := Lib.hid ho
    have HBW := Lib.hid hb
    have SZ := Lib.hid hsz
    have HBw := Lib.hid (show Below w.heap.size w wr by have h := HBW.out; rw [HW0.out] at h; exact h)
    clear hinv hRd hRl ho hb HO1 HB1 hsz
    have hkI : (k : Int) ≤ 1 := by omega
    rcases Nat.lt_or_ge i n with h1 | h1
    · have h1I : (i : Int) < (n : Int) := by omega
      obtain ⟨d, hd⟩ : ∃ d, L.getD i 0 = d := ⟨_, rfl⟩
      obtain ⟨e, he⟩ : ∃ e, M.getD i 0 = e := ⟨_, rfl⟩
      have hdB : d < 65536 := by rw [← hd]; exact getD_lt (by decide) HKL.out i
      have heB : e < 65536 := by rw [← he]; exact getD_lt (by decide) HKM.out i
      have HDL := Lib.hid hd
      have HDM := Lib.hid he
      clear hd he
      obtain ⟨b, off, rfl, hbl, hcell⟩ := HA.out (by omega)
      have c0 := hcell wr HBw.out i d (by have := HDL.out; rw [← this, List.getD_eq_getElem?_getD, List.getElem?_eq_getElem (by rw [HL.out]; exact h1)]; rfl)
      clear hcell
      rcases Nat.lt_or_ge i m with h2 | h2
      · have h2I : (i : Int) < (m : Int) := by omega
        obtain ⟨b2, off2, rfl, hbl2, hcell2⟩ := HA2.out (by omega)
        have c02 := hcell2 wr HBw.out i e (by have := HDM.out; rw [← this, List.getD_eq_getElem?_getD, List.getElem?_eq_getElem (by rw [HM.out]; exact h2)]; rfl)
        clear hcell2
        rcases Nat.lt_or_ge d (e + k) with hc | hc
        · have hneg : (d : Int) - (k : Int) - (e : Int) < 0 := by omega
          obtain ⟨lo, hlo⟩ : ∃ lo, lo = d + 65536 - (e + k) := ⟨_, rfl⟩
          have hloI : (d : Int) - (k : Int) - (e : Int) + 65536 = (lo : Int) := by omega
          have hlo65 : (lo : Int) < 65536 := by omega
          have HST := Lib.hid (show dv 65536 (R ++ [lo]) + dv 65536 (M.take (i + 1)) = dv 65536 (L.take (i + 1)) + 65536 ^ (i + 1) * 1 from by
            rw [dv_app, HRL.out, dv_take_getD, dv_take_getD, HDL.out, HDM.out, Nat.pow_succ]
            have h1 := borrow_step 65536 (65536 ^ i) (dv 65536 R) (dv 65536 (M.take i)) (dv 65536 (L.take i)) lo e d k 1 (by omega) HI.out
            simp only [dv, Nat.mul_zero, Nat.add_zero]
            omega)
          have HDK := Lib.hid (show dok 65536 (R ++ [lo]) from dok_app.2 ⟨HR.out, fun x hx => by obtain rfl : x = lo := (by simpa using hx); omega⟩)
          have HRL2 := Lib.hid (show (R ++ [lo]).length = i + 1 by rw [List.length_append, HRL.out]; rfl)
          clear hlo
          obtain ⟨W3, hW3⟩ : ∃ V, V = wr.alloc (.cells #[.int .i64 ((lo : Nat) : Int)] 3) := ⟨_, rfl⟩
          have HO3 := Lib.hid (show W3.ownsRow B0 3 1 (.slice A5 i c5) i (hcl R) by rw [hW3]; exact HOW.out.alloc _)
          have HB3 := Lib.hid (show Below B0 _ W3 by rw [hW3]; exact HBW.out.alloc SZ.out _)
          have SZ3 := Lib.hid (show B0 ≤ W3.heap.size by rw [hW3]; have := SZ.out; simp; omega)
          have HN3 : Hid (Src Try.prog 1 88 (.slice (some ⟨wr.heap.size, 0, none⟩) 1 1) 1 [.int .i64 ((lo : Nat) : Int)] W3) := Lib.hid (src_blk (c := 1) Try.underlying88 rfl (by intro u hu; simp at hu; rcases hu with rfl | rfl <;> rfl) (show Blk W3 wr.heap.size 3 (List.toArray [.int .i64 ((lo : Nat) : Int)]) by rw [hW3]; exact Blk.new _ _ _))
          subst hW3
          go_wp2_with (at_builtin; go_loud (refine wpList_append_src _ rfl _ _ 88 88 rfl B0 3 i0 _ 1 8 Try.underlying88 hi hz0 hz1 hz2 rfl (.slice A5 i c5) i _ rfl HO3.out _ 1 _ rfl HN3.out ?c1 ?c2 SZ3.out ?_))
          case c1 => unfold maxLen; omega
          case c2 => omega
          intro v' w6 own' hg _
          have HOF := Lib.hid (show w6.ownsRow B0 3 1 v' (i + 1) (hcl (R ++ [lo])) by
            rw [show hcl (R ++ [lo]) = hcl R ++ [.int .i64 ((lo : Nat) : Int)] by simp [hcl]]
            exact own')
          have HBF := Lib.hid (show Below B0 _ w6 from HB3.out.grown hg SZ3.out (fun j hj => (HO3.out.lt j hj).1))
          obtain ⟨A6, a6, rfl, -⟩ := At.of_own own'
          have SZ6 := Lib.hid (Nat.le_trans SZ3.out hg.size)
          clear own' hg HO3 HB3 HN3 SZ3
          go_wp2
          go_roundw
          case rel => exact ⟨i + 1, 1, R ++ [lo], A6, a6, rfl, rfl, by go_num, by omega, by omega, HRL2.out, HDK.out, HST.out, HOF.out, HBF.out, SZ6.out⟩
          case measure => simp only [intOf]; omega

        · have hneg : ¬ (d : Int) - (k : Int) - (e : Int) < 0 := by omega
          obtain ⟨lo, hlo⟩ : ∃ lo, lo = d - (e + k) := ⟨_, rfl⟩
          have hloI : (d : Int) - (k : Int) - (e : Int) = (lo : Int) := by omega
          have HST := Lib.hid (show dv 65536 (R ++ [lo]) + dv 65536 (M.take (i + 1)) = dv 65536 (L.take (i + 1)) + 65536 ^ (i + 1) * 0 from by
            rw [dv_app, HRL.out, dv_take_getD, dv_take_getD, HDL.out, HDM.out, Nat.pow_succ]
            have h1 := borrow_step 65536 (65536 ^ i) (dv 65536 R) (dv 65536 (M.take i)) (dv 65536 (L.take i)) lo e d k 0 (by omega) HI.out
            simp only [dv, Nat.mul_zero, Nat.add_zero]
            omega)
          have HDK := Lib.hid (show dok 65536 (R ++ [lo]) from dok_app.2 ⟨HR.out, fun x hx => by obtain rfl : x = lo := (by simpa using hx); omega⟩)
          have HRL2 := Lib.hid (show (R ++ [lo]).length = i + 1 by rw [List.length_append, HRL.out]; rfl)
          clear hlo
          obtain ⟨W3, hW3⟩ : ∃ V, V = wr.alloc (.cells #[.int .i64 ((lo : Nat) : Int)] 3) := ⟨_, rfl⟩
          have HO3 := Lib.hid (show W3.ownsRow B0 3 1 (.slice A5 i c5) i (hcl R) by rw [hW3]; exact HOW.out.alloc _)
          have HB3 := Lib.hid (show Below B0 _ W3 by rw [hW3]; exact HBW.out.alloc SZ.out _)
          have SZ3 := Lib.hid (show B0 ≤ W3.heap.size by rw [hW3]; have := SZ.out; simp; omega)
          have HN3 : Hid (Src Try.prog 1 88 (.slice (some ⟨wr.heap.size, 0, none⟩) 1 1) 1 [.int .i64 ((lo : Nat) : Int)] W3) := Lib.hid (src_blk (c := 1) Try.underlying88 rfl (by intro u hu; simp at hu; rcases hu with rfl | rfl <;> rfl) (show Blk W3 wr.heap.size 3 (List.toArray [.int .i64 ((lo : Nat) : Int)]) by rw [hW3]; exact Blk.new _ _ _))
          subst hW3
          go_wp2_with (at_builtin; go_loud (refine wpList_append_src _ rfl _ _ 88 88 rfl B0 3 i0 _ 1 8 Try.underlying88 hi hz0 hz1 hz2 rfl (.slice A5 i c5) i _ rfl HO3.out _ 1 _ rfl HN3.out ?c1 ?c2 SZ3.out ?_))
          case c1 => unfold maxLen; omega
          case c2 => omega
          intro v' w6 own' hg _
          have HOF := Lib.hid (show w6.ownsRow B0 3 1 v' (i + 1) (hcl (R ++ [lo])) by
            rw [show hcl (R ++ [lo]) = hcl R ++ [.int .i64 ((lo : Nat) : Int)] by simp [hcl]]
            exact own')
          have HBF := Lib.hid (show Below B0 _ w6 from HB3.out.grown hg SZ3.out (fun j hj => (HO3.out.lt j hj).1))
          obtain ⟨A6, a6, rfl, -⟩ := At.of_own own'
          have SZ6 := Lib.hid (Nat.le_trans SZ3.out hg.size)
          clear own' hg HO3 HB3 HN3 SZ3
          go_wp2
          go_roundw
          case rel => exact ⟨i + 1, 0, R ++ [lo], A6, a6, rfl, rfl, by go_num, by omega, by omega, HRL2.out, HDK.out, HST.out, HOF.out, HBF.out, SZ6.out⟩
          case measure => simp only [intOf]; omega
      · have h2I : ¬ (i : Int) < (m : Int) := by omega
        obtain rfl : e = 0 := by rw [← HDM.out]; simp [List.getD, List.getElem?_eq_none_iff.2 (show M.length ≤ i by rw [HM.out]; exact h2)]
        rcases Nat.lt_or_ge d (0 + k) with hc | hc
        · have hneg : (d : Int) - (k : Int) < 0 := by omega
          obtain ⟨lo, hlo⟩ : ∃ lo, lo = d + 65536 - (0 + k) := ⟨_, rfl⟩
          have hloI : (d : Int) - (k : Int) + 65536 = (lo : Int) := by omega
          have hlo65 : (lo : Int) < 65536 := by omega
          have HST := Lib.hid (show dv 65536 (R ++ [lo]) + dv 65536 (M.take (i + 1)) = dv 65536 (L.take (i + 1)) + 65536 ^ (i + 1) * 1 from by
            rw [dv_app, HRL.out, dv_take_getD, dv_take_getD, HDL.out, HDM.out, Nat.pow_succ]
            have h1 := borrow_step 65536 (65536 ^ i) (dv 65536 R) (dv 65536 (M.take i)) (dv 65536 (L.take i)) lo 0 d k 1 (by omega) HI.out
            simp only [dv, Nat.mul_zero, Nat.add_zero]
            omega)
          have HDK := Lib.hid (show dok 65536 (R ++ [lo]) from dok_app.2 ⟨HR.out, fun x hx => by obtain rfl : x = lo := (by simpa using hx); omega⟩)
          have HRL2 := Lib.hid (show (R ++ [lo]).length = i + 1 by rw [List.length_append, HRL.out]; rfl)
          clear hlo
          obtain ⟨W3, hW3⟩ : ∃ V, V = wr.alloc (.cells #[.int .i64 ((lo : Nat) : Int)] 3) := ⟨_, rfl⟩
          have HO3 := Lib.hid (show W3.ownsRow B0 3 1 (.slice A5 i c5) i (hcl R) by rw [hW3]; exact HOW.out.alloc _)
          have HB3 := Lib.hid (show Below B0 _ W3 by rw [hW3]; exact HBW.out.alloc SZ.out _)
          have SZ3 := Lib.hid (show B0 ≤ W3.heap.size by rw [hW3]; have := SZ.out; simp; omega)
          have HN3 : Hid (Src Try.prog 1 88 (.slice (some ⟨wr.heap.size, 0, none⟩) 1 1) 1 [.int .i64 ((lo : Nat) : Int)] W3) := Lib.hid (src_blk (c := 1) Try.underlying88 rfl (by intro u hu; simp at hu; rcases hu with rfl | rfl <;> rfl) (show Blk W3 wr.heap.size 3 (List.toArray [.int .i64 ((lo : Nat) : Int)]) by rw [hW3]; exact Blk.new _ _ _))
          subst hW3
          go_wp2_with (at_builtin; go_loud (refine wpList_append_src _ rfl _ _ 88 88 rfl B0 3 i0 _ 1 8 Try.underlying88 hi hz0 hz1 hz2 rfl (.slice A5 i c5) i _ rfl HO3.out _ 1 _ rfl HN3.out ?c1 ?c2 SZ3.out ?_))
          case c1 => unfold maxLen; omega
          case c2 => omega
          intro v' w6 own' hg _
          have HOF := Lib.hid (show w6.ownsRow B0 3 1 v' (i + 1) (hcl (R ++ [lo])) by
            rw [show hcl (R ++ [lo]) = hcl R ++ [.int .i64 ((lo : Nat) : Int)] by simp [hcl]]
            exact own')
          have HBF := Lib.hid (show Below B0 _ w6 from HB3.out.grown hg SZ3.out (fun j hj => (HO3.out.lt j hj).1))
          obtain ⟨A6, a6, rfl, -⟩ := At.of_own own'
          have SZ6 := Lib.hid (Nat.le_trans SZ3.out hg.size)
          clear own' hg HO3 HB3 HN3 SZ3
          go_wp2
          go_roundw
          case rel => exact ⟨i + 1, 1, R ++ [lo], A6, a6, rfl, rfl, by go_num, by omega, by omega, HRL2.out, HDK.out, HST.out, HOF.out, HBF.out, SZ6.out⟩
          case measure => simp only [intOf]; omega

        · have hneg : ¬ (d : Int) - (k : Int) < 0 := by omega
          obtain ⟨lo, hlo⟩ : ∃ lo, lo = d - (0 + k) := ⟨_, rfl⟩
          have hloI : (d : Int) - (k : Int) = (lo : Int) := by omega
          have HST := Lib.hid (show dv 65536 (R ++ [lo]) + dv 65536 (M.take (i + 1)) = dv 65536 (L.take (i + 1)) + 65536 ^ (i + 1) * 0 from by
            rw [dv_app, HRL.out, dv_take_getD, dv_take_getD, HDL.out, HDM.out, Nat.pow_succ]
            have h1 := borrow_step 65536 (65536 ^ i) (dv 65536 R) (dv 65536 (M.take i)) (dv 65536 (L.take i)) lo 0 d k 0 (by omega) HI.out
            simp only [dv, Nat.mul_zero, Nat.add_zero]
            omega)
          have HDK := Lib.hid (show dok 65536 (R ++ [lo]) from dok_app.2 ⟨HR.out, fun x hx => by obtain rfl : x = lo := (by simpa using hx); omega⟩)
          have HRL2 := Lib.hid (show (R ++ [lo]).length = i + 1 by rw [List.length_append, HRL.out]; rfl)
          clear hlo
          obtain ⟨W3, hW3⟩ : ∃ V, V = wr.alloc (.cells #[.int .i64 ((lo : Nat) : Int)] 3) := ⟨_, rfl⟩
          have HO3 := Lib.hid (show W3.ownsRow B0 3 1 (.slice A5 i c5) i (hcl R) by rw [hW3]; exact HOW.out.alloc _)
          have HB3 := Lib.hid (show Below B0 _ W3 by rw [hW3]; exact HBW.out.alloc SZ.out _)
          have SZ3 := Lib.hid (show B0 ≤ W3.heap.size by rw [hW3]; have := SZ.out; simp; omega)
          have HN3 : Hid (Src Try.prog 1 88 (.slice (some ⟨wr.heap.size, 0, none⟩) 1 1) 1 [.int .i64 ((lo : Nat) : Int)] W3) := Lib.hid (src_blk (c := 1) Try.underlying88 rfl (by intro u hu; simp at hu; rcases hu with rfl | rfl <;> rfl) (show Blk W3 wr.heap.size 3 (List.toArray [.int .i64 ((lo : Nat) : Int)]) by rw [hW3]; exact Blk.new _ _ _))
          subst hW3
          go_wp2_with (at_builtin; go_loud (refine wpList_append_src _ rfl _ _ 88 88 rfl B0 3 i0 _ 1 8 Try.underlying88 hi hz0 hz1 hz2 rfl (.slice A5 i c5) i _ rfl HO3.out _ 1 _ rfl HN3.out ?c1 ?c2 SZ3.out ?_))
          case c1 => unfold maxLen; omega
          case c2 => omega
          intro v' w6 own' hg _
          have HOF := Lib.hid (show w6.ownsRow B0 3 1 v' (i + 1) (hcl (R ++ [lo])) by
            rw [show hcl (R ++ [lo]) = hcl R ++ [.int .i64 ((lo : Nat) : Int)] by simp [hcl]]
            exact own')
          have HBF := Lib.hid (show Below B0 _ w6 from HB3.out.grown hg SZ3.out (fun j hj => (HO3.out.lt j hj).1))
          obtain ⟨A6, a6, rfl, -⟩ := At.of_own own'
          have SZ6 := Lib.hid (Nat.le_trans SZ3.out hg.size)
          clear own' hg HO3 HB3 HN3 SZ3
          go_wp2
          go_roundw
          case rel => exact ⟨i + 1, 0, R ++ [lo], A6, a6, rfl, rfl, by go_num, by omega, by omega, HRL2.out, HDK.out, HST.out, HOF.out, HBF.out, SZ6.out⟩
          case measure => simp only [intOf]; omega
    · have h1I : ¬ (i : Int) < (n : Int) := by omega
      have HX := Lib.hid (show dv 65536 R = dv 65536 L - dv 65536 M from by
        have h4 := HI.out
        obtain rfl : i = n := by omega
        have h5 := dv_lt (B := 65536) (by decide) R HR.out
        rw [HRL.out] at h5
        rw [List.take_of_length_le (show M.length ≤ i by rw [HM.out]; exact hm), List.take_of_length_le (show L.length ≤ i by rw [HL.out]; exact Nat.le_refl _)] at h4
        have h6 := HLE.out
        rcases Nat.eq_zero_or_pos k with h7 | h7
        · subst h7; omega
        · obtain rfl : k = 1 := by omega
          omega)
      obtain ⟨A6, c6, e6, hg6, hs6⟩ := own_hg HOW.out HR.out
      injection e6 with eA _ ec
      subst eA
      subst ec
      have CT := Lib.hid (rtrim_at A5 i c5 R wr hg6 hs6)
      rw [HX.out] at CT
      clear hg6 hs6
      go_wp2_with fail
      refine CT.out.mono ?_
      rintro e w7 ⟨⟨v, rfl, hv, k7, e7⟩, hy⟩
      replace hy := hy.symm
      subst hy
      have HV7 := Lib.hid (hv.mono hi1)
      have HF7 := Lib.hid (show Fr w.heap.size v from by rw [e7, HW0.out.symm]; exact own_fr HOW.out k7)
      clear e7
      clear hv CT
      go_wp2
      go_ret
      exact ⟨_, rfl, HV7.out, HF7.out, HBw.out⟩
theorem minus_any (A : Option Addr) (n c : Nat) (L : List Nat) (A2 : Option Addr) (m c2 : Nat) (M : List Nat) (w : World) (h : HG w A n L) (h2 : HG w A2 m M) (hn : n ≤ 10000000) (hm : m ≤ n) (hle : dv 65536 M ≤ dv 65536 L) : Calls Try.prog 68 #[.slice A n c, .slice A2 m c2] w fun e w' => ∃ v, e = .returned v ∧ HV w' v (dv 65536 L - dv 65536 M) n ∧ Below w.heap.size w w' := by
  refine (minus_at A n c L A2 m c2 M w h h2 hn hm hle).mono ?_
  rintro e w' ⟨v, rfl, hv, _, hb⟩
  exact ⟨v, rfl, hv, hb⟩

set_option maxRecDepth 100000 in
set_option maxHeartbeats 4000000 in
theorem order_any (A : Option Addr) (n c : Nat) (D : List Nat) (A2 : Option Addr) (m c2 : Nat) (E : List Nat) (w : World) (h : HG w A n D) (h2 : HG w A2 m E) (hn : n ≤ 10000000) (hnz : n = m ∨ (nmz D ∧ nmz E)) :
    Calls Try.prog 64 #[.slice A n c, .slice A2 m c2] w fun e w' => e = .returned (.int .i64 (scmp (dv 65536 D) (dv 65536 E))) ∧ Below w.heap.size w w' := by
  have HA := Lib.hid h.at
  have HL := Lib.hid h.1
  have HD := Lib.hid h.2.1
  have HA2 := Lib.hid h2.at
  have HL2 := Lib.hid h2.1
  have HD2 := Lib.hid h2.2.1
  obtain ⟨r, hr⟩ : ∃ r, scmp (dv 65536 D) (dv 65536 E) = r := ⟨_, rfl⟩
  rw [hr]
  have HR := Lib.hid hr
  clear h h2 hr
  rcases Nat.lt_trichotomy n m with hlt | hlt | hlt
  · have HF := Lib.hid (show -1 = r by
      have hz := hnz.resolve_left (by omega)
      rw [← HR.out]; unfold scmp; rw [if_pos (nmz_len (by decide) D E HD.out HD2.out hz.2 (by rw [HL.out, HL2.out]; exact hlt))])
    have h1 : ((n : Int) == (m : Int)) = false := by simp; omega
    have h1' : ((n : Int) != (m : Int)) = true := by simp; omega
    have hlti : (n : Int) < m := by omega
    go_enter Try.func64, Try.ntmps64
    go_wp2
    go_ret
    exact ⟨ret_int HF.out, Below.refl _ _⟩
  · subst hlt
    go_enter Try.func64, Try.ntmps64
    go_wp2
    go_loopw [5] (fun s5 wr => ∃ (k : Nat) (x : Int), s5 = .int .i64 x ∧ x = (k : Int) - 1 ∧ k ≤ n ∧ D.drop k = E.drop k ∧ Below w.heap.size w wr) (fun s5 _ => (intOf s5 + 1).toNat)
    case atStart => exact ⟨n, _, rfl, rfl, Nat.le_refl _, by rw [List.drop_of_length_le (show D.length ≤ n by rw [HL.out]; exact Nat.le_refl _), List.drop_of_length_le (show E.length ≤ n by rw [HL2.out]; exact Nat.le_refl _)], Below.refl _ _⟩
    case round =>
      obtain ⟨k, x, rfl, hx, hkn, he, hb⟩ := hrel
      have HE := Lib.hid he
      have HB := Lib.hid hb
      clear he hb
      by_cases h0 : k = 0
      · subst h0
        obtain rfl : x = -1 := by omega
        clear hx
        have HF := Lib.hid (show 0 = r by
          have := HE.out
          simp only [List.drop_zero] at this
          rw [← HR.out, this]; unfold scmp; rw [if_neg (by omega), if_neg (by omega)])
        go_wp2
        go_ret
        exact ⟨ret_int HF.out, HB.out⟩
      · obtain ⟨j, rfl⟩ : ∃ j : Nat, k = j + 1 := ⟨k - 1, by omega⟩
        obtain rfl : x = (j : Int) := by omega
        clear hx h0
        have hjn : (j : Int) < n := by omega
        obtain ⟨b, off, rfl, hbl, hc⟩ := HA.out (by omega)
        obtain ⟨b2, off2, rfl, hbl2, hc2⟩ := HA2.out (by omega)
        obtain ⟨d, hd⟩ : ∃ d, D[j]? = some d := ⟨_, List.getElem?_eq_getElem (by have := HL.out; omega)⟩
        obtain ⟨e, hee⟩ : ∃ d, E[j]? = some d := ⟨_, List.getElem?_eq_getElem (by have := HL2.out; omega)⟩
        have c0 := hc wr HB.out j d hd
        have c1 := hc2 wr HB.out j e hee
        have HDd := Lib.hid hd
        have HEe := Lib.hid hee
        clear hc hc2 hd hee
        by_cases hde : d = e
        · subst hde
          have HE2 := Lib.hid (show D.drop j = E.drop j by
            obtain ⟨h1, h2⟩ := List.getElem?_eq_some_iff.1 HDd.out
            obtain ⟨h3, h4⟩ := List.getElem?_eq_some_iff.1 HEe.out
            rw [List.drop_eq_getElem_cons h1, List.drop_eq_getElem_cons h3, h2, h4, HE.out])
          have hll : ¬ (d : Int) < (d : Int) := by omega
          go_wp2
          go_quiet (fail)
          have HBQ := Lib.hid (below_drewN (n := nq) HB.out)
          have c0' : (wr.drewN nq).cell? ⟨b, off + j, none⟩ = some (.int .i64 (d : Int)) := c0
          have c1' : (wr.drewN nq).cell? ⟨b2, off2 + j, none⟩ = some (.int .i64 (d : Int)) := c1
          go_wp2
          go_quiet (fail)
          replace HBQ := Lib.hid (below_drewN (n := nq) HBQ.out)
          go_wp2
          go_roundw
          case rel => exact ⟨j, _, by go_num, by go_num, by omega, HE2.out, below_drewN HB.out⟩
          case measure => simp only [intOf]; omega
        · have hne : ((d : Int) == (e : Int)) = false := by simp; omega
          have hne' : ((d : Int) != (e : Int)) = true := by simp; omega
          rcases Nat.lt_or_ge d e with hlt | hge
          · have hlti : (d : Int) < e := by omega
            have HF := Lib.hid (show -1 = r by rw [← HR.out]; unfold scmp; rw [if_pos (cmp_top (by decide) D E j d e HD.out HD2.out HDd.out HEe.out HE.out hlt)])
            clear hde
            go_wp2
            go_quiet (fail)
            have HBQ := Lib.hid (below_drewN (n := nq) HB.out)
            go_wp2
            go_ret
            exact ⟨ret_int HF.out, HBQ.out⟩
          · have hlti : ¬ (d : Int) < e := by omega
            have hgti : (e : Int) < (d : Int) := by omega
            have HF := Lib.hid (show 1 = r by
              have h1 := cmp_top (by decide) E D j e d HD2.out HD.out HEe.out HDd.out HE.out.symm (by omega)
              rw [← HR.out]; unfold scmp; rw [if_neg (by omega), if_pos h1])
            clear hde hge
            go_wp2
            go_quiet (fail)
            have HBQ := Lib.hid (below_drewN (n := nq) HB.out)
            have c0' : (wr.drewN nq).cell? ⟨b, off + j, none⟩ = some (.int .i64 (d : Int)) := c0
            have c1' : (wr.drewN nq).cell? ⟨b2, off2 + j, none⟩ = some (.int .i64 (e : Int)) := c1
            go_wp2
            go_quiet (fail)
            go_wp2
            go_ret
            exact ⟨ret_int HF.out, by have := below_drewN (n := nq) HBQ.out; exact this⟩
  · have HF := Lib.hid (show 1 = r by
      have hz := hnz.resolve_left (by omega)
      have h1 := nmz_len (by decide) E D HD2.out HD.out hz.1 (by rw [HL.out, HL2.out]; exact hlt)
      rw [← HR.out]; unfold scmp; rw [if_neg (by omega), if_pos h1])
    have h1 : ((n : Int) == (m : Int)) = false := by simp; omega
    have h1' : ((n : Int) != (m : Int)) = true := by simp; omega
    have hlti : ¬ (n : Int) < m := by omega
    go_enter Try.func64, Try.ntmps64
    go_wp2
    go_ret
    exact ⟨ret_int HF.out, Below.refl _ _⟩

theorem nmz_of_low {B : Nat} (hB : 0 < B) (l : List Nat) (hl : dok B l) (h : 0 < l.length → B ^ (l.length - 1) ≤ dv B l) : nmz l := by
  intro d hd e
  subst e
  have hlen := (List.getElem?_eq_some_iff.1 hd).1
  have h1 := h (by omega)
  have h2 := dv_take_succ B l (l.length - 1) 0 hd
  rw [show l.length - 1 + 1 = l.length by omega, List.take_length] at h2
  have h3 := dv_lt hB (l.take (l.length - 1)) (dok_take hl _)
  rw [List.length_take, Nat.min_eq_left (by omega)] at h3
  omega
theorem getD_of {l : List Nat} {i d : Nat} (h : l[i]? = some d) : l.getD i 0 = d := by simp [List.getD, h]
set_option maxRecDepth 100000 in
set_option maxHeartbeats 4000000 in
theorem big_any (neg : Bool) (A : Option Addr) (n c : Nat) (L : List Nat) (w : World) (h : HG w A n L) (hs : Sl A n c) (hn : n ≤ 10000000) : Calls Try.prog 66 #[.bool neg, .slice A n c] w fun e w' => ∃ v, e = .returned v ∧ NB w' w.heap.size v (sgn neg (dv 65536 L)) (n + 1) ∧ Below w.heap.size w w' := by
  obtain ⟨i0, hi, hz0, hz1, hz2⟩ := info_parts (show (Try.prog.info? 86).map (fun i => (i.zero, i.size, i.bytes)) = some (some (.int .u32 0), 1, 4) by kernel_rfl)
  obtain ⟨z, hz⟩ : ∃ z, sgn neg (dv 65536 L) = z := ⟨_, rfl⟩
  rw [hz]
  have HZ := Lib.hid hz
  obtain ⟨W0, hW0⟩ : ∃ V, V = w.alloc (.cells #[.bool false, .slice none 0 0] 37) := ⟨_, rfl⟩
  have HB := Lib.hid (show Below w.heap.size w W0 by rw [hW0]; exact (Below.refl _ w).alloc (Nat.le_refl _) _)
  have HK := Lib.hid (show Blk W0 w.heap.size 37 #[.bool false, .slice none 0 0] by rw [hW0]; exact Blk.new _ _ _)
  have CT := Lib.hid (rtrim_any A n c L W0 (h.below HB.out) hs)
  have HG4 := Lib.hid (HK.out.lt)
  have HGS := Lib.hid (show w.heap.size + 1 = W0.heap.size by rw [hW0]; simp)
  clear h hs hz
  go_enter Try.func66, Try.ntmps66
  go_wp2_with fail
  rw [← hW0]
  clear hW0
  refine CT.out.mono ?_
  rintro e w1 ⟨⟨v, rfl, hv⟩, hy⟩
  replace hy := hy.symm
  subst hy
  obtain ⟨A1, n1, c1, L1, rfl, hg1, hs1, hnm, hdv, hN⟩ := hv
  have HNM := Lib.hid hnm
  have HDV := Lib.hid hdv
  have HA := Lib.hid hg1.at
  have HL := Lib.hid hg1.1
  have HKL := Lib.hid hg1.2.1
  clear hnm hdv hg1 hs1 CT
  obtain ⟨sg, hsg⟩ : ∃ b, b = (neg && decide (0 < n1)) := ⟨_, rfl⟩
  have HSG := Lib.hid (show decide (z < 0) = sg by
    rw [← HZ.out, ← HDV.out, hsg]
    rcases Nat.eq_zero_or_pos n1 with e | e
    · have : L1 = [] := List.eq_nil_of_length_eq_zero (by rw [HL.out, e])
      subst this
      subst e
      rw [show dv 65536 [] = 0 from rfl, sgn_zero]
      simp
    · have h0 : dv 65536 L1 ≠ 0 := fun e2 => by
        have := congrArg List.length ((nmz_zero (by decide) L1 HNM.out).1 e2)
        rw [HL.out] at this
        simp at this
        omega
      rw [sgn_neg h0]
      simp [e])
  obtain ⟨g5, hg5⟩ : ∃ g, W0.heap.size = g := ⟨_, rfl⟩
  obtain ⟨W1, hW1⟩ : ∃ V, V = W0.alloc (.cells #[.bool sg, .slice none 0 0] 37) := ⟨_, rfl⟩
  have HBb := Lib.hid (show Below W0.heap.size W0 W1 by rw [hW1]; exact (Below.refl _ W0).alloc (Nat.le_refl _) _)
  have HB1 := Lib.hid (HB.out.trans (HBb.out.mono HB.out.size))
  have HK4 := Lib.hid (HK.out.below HBb.out)
  have HK5 := Lib.hid (show Blk W1 g5 37 #[.bool sg, .slice none 0 0] by rw [hW1, ← hg5]; exact Blk.new _ _ _)
  obtain ⟨B0, hB0⟩ : ∃ b, b = W1.heap.size := ⟨_, rfl⟩
  have HB0 := Lib.hid hB0
  have HG5 := Lib.hid (show g5 < B0 by rw [hB0]; exact HK5.out.lt)
  replace HG4 := Lib.hid (show w.heap.size < g5 by rw [← hg5]; exact HG4.out)
  have HLB := Lib.hid (show w.heap.size ≤ B0 by rw [hB0]; exact HB1.out.size)
  have SZ0 := Lib.hid (show B0 ≤ W1.heap.size by rw [hB0]; exact Nat.le_refl _)
  have HW05 := Lib.hid hg5
  clear hB0
  have HW1 := Lib.hid hW1
  clear hW1
  rcases Bool.eq_false_or_eq_true neg with e | e
  rotate_left 1
  · subst e
    obtain rfl : sg = false := by rw [hsg]; simp
    clear hsg
    go_wp2_with fail
    rw [← HW1.out]
    go_loopw [6, 7] (fun s6 _ wr => ∃ (j : Nat) (R : List Nat) (A5 : Option Addr) (c5 : Nat) (i : Int), s6 = .int .i64 i ∧ i = 2 * (j : Int) ∧ 2 * j ≤ n1 + 1 ∧ R.length = j ∧ dok 4294967296 R ∧ dv 4294967296 R = dv 65536 (L1.take (2 * j)) ∧ wr.ownsRow B0 86 1 (.slice A5 j c5) j (dcl R) ∧ Blk wr g5 37 #[.bool false, .slice A5 j c5] ∧ Below g5 W0 wr ∧ B0 ≤ wr.heap.size) (fun s6 _ _ => n1 + 2 - (intOf s6).toNat)
    case atStart => exact ⟨0, [], none, 0, _, rfl, rfl, by omega, rfl, dok_nil _, rfl, World.ownsRow_nil _ _ _ _, HK5.out, by have h := HBb.out; rw [HW05.out] at h; exact h, SZ0.out⟩
    case round =>
      obtain ⟨j, R, A5, c5, i, rfl, hi2, hj, hRl, hRd, hinv, ho, hk5, hb, hsz⟩ := hrel
      replace HK5 := Lib.hid hk5
      have HI := Lib.hid hinv
      have HR := Lib.hid hRd
      have HRL := Lib.hid hRl
      have HOW := Lib.hid ho
      have HBW := Lib.hid hb
      have SZ := Lib.hid hsz
      clear hinv hRd hRl ho hk5 hb hsz HK4 HB1 HBb SZ0
      by_cases h1 : 2 * j < n1
      · have h1I : i < (n1 : Int) := by omega
        have hiN : i = ((2 * j : Nat) : Int) := by omega
        obtain ⟨b, off, rfl, hbl, hcell⟩ := HA.out (by omega)
        obtain ⟨d, hd⟩ : ∃ d, L1[2 * j]? = some d := ⟨_, List.getElem?_eq_getElem (by rw [HL.out]; exact h1)⟩
        have c0 := hcell wr (by rw [HW05.out]; exact HBW.out) (2 * j) d hd
        have hdB := dok_at HKL.out hd
        have HDd := Lib.hid hd
        obtain ⟨q, hq⟩ : ∃ q, q = 2 * j := ⟨_, rfl⟩
        rw [← hq] at c0 hiN
        subst hiN
        have HQ := Lib.hid hq
        clear hd hi2
        by_cases h2 : 2 * j + 1 < n1
        · have h2I : (q : Int) + 1 < (n1 : Int) := by omega
          obtain ⟨e, he⟩ : ∃ e, L1[2 * j + 1]? = some e := ⟨_, List.getElem?_eq_getElem (by rw [HL.out]; exact h2)⟩
          have c02 := hcell wr (by rw [HW05.out]; exact HBW.out) (2 * j + 1) e he
          rw [← hq] at c02
          have heB := dok_at HKL.out he
          have HDe := Lib.hid he
          clear he hcell hq
          obtain ⟨x, hx⟩ : ∃ x, x = d + 65536 * e := ⟨_, rfl⟩
          have hxI : (d : Int) + 65536 * (e : Int) = (x : Int) := by omega
          have hxB : x < 4294967296 := by omega
          have HST := Lib.hid (show dv 4294967296 (R ++ [x]) = dv 65536 (L1.take (2 * (j + 1))) from by
            rw [dv_app, HRL.out, HI.out, show 2 * (j + 1) = 2 * j + 1 + 1 by omega, dv_take_succ 65536 L1 (2 * j + 1) e HDe.out, dv_take_succ 65536 L1 (2 * j) d HDd.out, hx]
            simp only [dv, Nat.mul_zero, Nat.add_zero, Nat.pow_succ, Nat.pow_mul]
            grind)
          have HDK := Lib.hid (show dok 4294967296 (R ++ [x]) from dok_app.2 ⟨HR.out, fun y hy => by obtain rfl : y = x := (by simpa using hy); exact hxB⟩)
          have hjq : j + 1 ≤ n1 := by omega
          have HJ1 := Lib.hid (show 2 * (j + 1) ≤ n1 + 1 by omega)
          have HI2 := Lib.hid (show (q : Int) + 2 = 2 * ((j + 1 : Nat) : Int) by have := HQ.out; omega)
          clear hx
          obtain ⟨W3, hW3⟩ : ∃ V, V = wr.alloc (.cells #[.int .u32 ((x : Nat) : Int)] 86) := ⟨_, rfl⟩
          have HO3 := Lib.hid (show W3.ownsRow B0 86 1 (.slice A5 j c5) j (dcl R) by rw [hW3]; exact HOW.out.alloc _)
          have HB3 := Lib.hid (show Below g5 W0 W3 by rw [hW3]; exact HBW.out.alloc (Nat.le_of_lt HK5.out.lt) _)
          have SZ3 := Lib.hid (show B0 ≤ W3.heap.size by rw [hW3]; have := SZ.out; simp; omega)
          have HK3 := Lib.hid (show Blk W3 g5 37 #[.bool false, .slice A5 j c5] by rw [hW3]; exact HK5.out.alloc _)
          have HN3 : Hid (Src Try.prog 1 35 (.slice (some ⟨wr.heap.size, 0, none⟩) 1 1) 1 [.int .u32 ((x : Nat) : Int)] W3) := Lib.hid (src_blk (c := 1) Try.underlying35 rfl (by intro u hu; obtain rfl : u = .int .u32 ((x : Nat) : Int) := (by simpa using hu); rfl) (show Blk W3 wr.heap.size 86 [Value.int .u32 ((x : Nat) : Int)].toArray by rw [hW3]; exact Blk.new _ _ _))
          have w3_0 : wr.cell? ⟨g5, 1, none⟩ = some (.slice A5 j c5) := HK5.out.cell 1
          have w3_1 : W3.cell? ⟨g5, 1, none⟩ = some (.slice A5 j c5) := HK3.out.cell 1
          subst hW3
          go_wp2_with (at_builtin; go_loud (refine wpList_append_src _ rfl _ _ 35 35 rfl B0 86 i0 _ 1 4 Try.underlying35 hi hz0 hz1 hz2 rfl (.slice A5 j c5) j _ rfl HO3.out _ 1 _ rfl HN3.out ?c1 ?c2 SZ3.out ?_))
          case c1 => unfold maxLen; omega
          case c2 => omega
          intro v' w6 own' hg _
          have hne : some g5 ≠ (Value.slice A5 j c5).ownBlock := fun e => by
            have := (HO3.out.lt g5 e.symm).1
            have := HG5.out
            omega
          have HBF := Lib.hid (show Below g5 W0 w6 from HB3.out.grown hg (by have := SZ3.out; have := HG5.out; omega) (fun k hk => by have := (HO3.out.lt k hk).1; have := HG5.out; omega))
          have HK6 := Lib.hid (show Blk w6 g5 37 #[.bool false, .slice A5 j c5] from (hg.block g5 (by have := HK3.out.lt; exact this) hne).trans HK3.out)
          have SZ6 := Lib.hid (Nat.le_trans SZ3.out hg.size)
          obtain ⟨A6, a6, rfl, -⟩ := At.of_own own'
          have s1 := store_step HK6.out 1 (.slice A6 (j + 1) a6)
          have HO6 := Lib.hid (show (w6.setCell ⟨g5, 1, none⟩ (.slice A6 (j + 1) a6)).ownsRow B0 86 1 (.slice A6 (j + 1) a6) (j + 1) (dcl (R ++ [x])) from by
            rw [show dcl (R ++ [x]) = dcl R ++ [.int .u32 ((x : Nat) : Int)] by simp [dcl]]
            refine own'.kept (grown_set w6 g5 1 _) (Or.inr (fun e => ?_))
            have := (own'.lt g5 e).1
            have := HG5.out
            omega)
          have KA := Lib.hid s1.1
          have KC := Lib.hid (s1.2.2 _ _ HBF.out (Nat.le_refl _))
          have k6_1 : w6.cell? ⟨g5, 1, none⟩ = some (.slice A5 j c5) := HK6.out.cell 1
          have f6_1 : w6.frozen? ⟨g5, 1, none⟩ = false := Joins.unfrozen_of_block HK6.out _
          clear own' hg s1 hne HO3 HB3 HN3 w3_1 w3_0
          go_wp2
          go_roundw
          case rel => exact ⟨j + 1, R ++ [x], A6, a6, _, rfl, HI2.out, HJ1.out, by rw [List.length_append, HRL.out]; rfl, HDK.out, HST.out, HO6.out, KA.out, KC.out, by simpa [World.setCell] using SZ6.out⟩
          case measure => simp only [intOf]; omega
        · have h2I : ¬ (q : Int) + 1 < (n1 : Int) := by omega
          obtain ⟨x, hx⟩ : ∃ x, x = d := ⟨_, rfl⟩
          subst hx
          have HST := Lib.hid (show dv 4294967296 (R ++ [x]) = dv 65536 (L1.take (2 * (j + 1))) from by
            rw [dv_app, HRL.out, HI.out, show 2 * (j + 1) = 2 * j + 1 + 1 by omega, List.take_of_length_le (show L1.length ≤ 2 * j + 1 + 1 by rw [HL.out]; omega)]
            have h5 := dv_take_succ 65536 L1 (2 * j) x HDd.out
            rw [List.take_of_length_le (show L1.length ≤ 2 * j + 1 by rw [HL.out]; omega)] at h5
            rw [h5]
            simp only [dv, Nat.mul_zero, Nat.add_zero, Nat.pow_mul])
          have HDK := Lib.hid (show dok 4294967296 (R ++ [x]) from dok_app.2 ⟨HR.out, fun y hy => by obtain rfl : y = x := (by simpa using hy); omega⟩)
          have hjq : j + 1 ≤ n1 := by omega
          have HJ1 := Lib.hid (show 2 * (j + 1) ≤ n1 + 1 by omega)
          have HI2 := Lib.hid (show (q : Int) + 2 = 2 * ((j + 1 : Nat) : Int) by have := HQ.out; omega)
          clear hcell hq
          obtain ⟨W3, hW3⟩ : ∃ V, V = wr.alloc (.cells #[.int .u32 ((x : Nat) : Int)] 86) := ⟨_, rfl⟩
          have HO3 := Lib.hid (show W3.ownsRow B0 86 1 (.slice A5 j c5) j (dcl R) by rw [hW3]; exact HOW.out.alloc _)
          have HB3 := Lib.hid (show Below g5 W0 W3 by rw [hW3]; exact HBW.out.alloc (Nat.le_of_lt HK5.out.lt) _)
          have SZ3 := Lib.hid (show B0 ≤ W3.heap.size by rw [hW3]; have := SZ.out; simp; omega)
          have HK3 := Lib.hid (show Blk W3 g5 37 #[.bool false, .slice A5 j c5] by rw [hW3]; exact HK5.out.alloc _)
          have HN3 : Hid (Src Try.prog 1 35 (.slice (some ⟨wr.heap.size, 0, none⟩) 1 1) 1 [.int .u32 ((x : Nat) : Int)] W3) := Lib.hid (src_blk (c := 1) Try.underlying35 rfl (by intro u hu; obtain rfl : u = .int .u32 ((x : Nat) : Int) := (by simpa using hu); rfl) (show Blk W3 wr.heap.size 86 [Value.int .u32 ((x : Nat) : Int)].toArray by rw [hW3]; exact Blk.new _ _ _))
          have w3_0 : wr.cell? ⟨g5, 1, none⟩ = some (.slice A5 j c5) := HK5.out.cell 1
          have w3_1 : W3.cell? ⟨g5, 1, none⟩ = some (.slice A5 j c5) := HK3.out.cell 1
          subst hW3
          go_wp2_with (at_builtin; go_loud (refine wpList_append_src _ rfl _ _ 35 35 rfl B0 86 i0 _ 1 4 Try.underlying35 hi hz0 hz1 hz2 rfl (.slice A5 j c5) j _ rfl HO3.out _ 1 _ rfl HN3.out ?c1 ?c2 SZ3.out ?_))
          case c1 => unfold maxLen; omega
          case c2 => omega
          intro v' w6 own' hg _
          have hne : some g5 ≠ (Value.slice A5 j c5).ownBlock := fun e => by
            have := (HO3.out.lt g5 e.symm).1
            have := HG5.out
            omega
          have HBF := Lib.hid (show Below g5 W0 w6 from HB3.out.grown hg (by have := SZ3.out; have := HG5.out; omega) (fun k hk => by have := (HO3.out.lt k hk).1; have := HG5.out; omega))
          have HK6 := Lib.hid (show Blk w6 g5 37 #[.bool false, .slice A5 j c5] from (hg.block g5 (by have := HK3.out.lt; exact this) hne).trans HK3.out)
          have SZ6 := Lib.hid (Nat.le_trans SZ3.out hg.size)
          obtain ⟨A6, a6, rfl, -⟩ := At.of_own own'
          have s1 := store_step HK6.out 1 (.slice A6 (j + 1) a6)
          have HO6 := Lib.hid (show (w6.setCell ⟨g5, 1, none⟩ (.slice A6 (j + 1) a6)).ownsRow B0 86 1 (.slice A6 (j + 1) a6) (j + 1) (dcl (R ++ [x])) from by
            rw [show dcl (R ++ [x]) = dcl R ++ [.int .u32 ((x : Nat) : Int)] by simp [dcl]]
            refine own'.kept (grown_set w6 g5 1 _) (Or.inr (fun e => ?_))
            have := (own'.lt g5 e).1
            have := HG5.out
            omega)
          have KA := Lib.hid s1.1
          have KC := Lib.hid (s1.2.2 _ _ HBF.out (Nat.le_refl _))
          have k6_1 : w6.cell? ⟨g5, 1, none⟩ = some (.slice A5 j c5) := HK6.out.cell 1
          have f6_1 : w6.frozen? ⟨g5, 1, none⟩ = false := Joins.unfrozen_of_block HK6.out _
          clear own' hg s1 hne HO3 HB3 HN3 w3_1 w3_0
          go_wp2
          go_roundw
          case rel => exact ⟨j + 1, R ++ [x], A6, a6, _, rfl, HI2.out, HJ1.out, by rw [List.length_append, HRL.out]; rfl, HDK.out, HST.out, HO6.out, KA.out, KC.out, by simpa [World.setCell] using SZ6.out⟩
          case measure => simp only [intOf]; omega
      · have h1I : ¬ i < (n1 : Int) := by omega
        have hdvR : dv 4294967296 R = dv 65536 L1 := by
          rw [HI.out, List.take_of_length_le (show L1.length ≤ 2 * j by rw [HL.out]; omega)]
        have HRN := Lib.hid (show nmz R from nmz_of_low (by decide) R HR.out (fun h0 => by
          rw [HRL.out] at h0 ⊢
          have h3 := nmz_low (B := 65536) (by decide) L1 HNM.out (by rw [HL.out]; omega)
          rw [HL.out] at h3
          rw [hdvR, show (4294967296 : Nat) = 65536 ^ 2 by decide, ← Nat.pow_mul]
          exact Nat.le_trans (Nat.pow_le_pow_right (by decide) (by omega)) h3))
        obtain ⟨A6, c6, e6, ho6, hs6⟩ := own_row HOW.out HR.out
        injection e6 with eA _ ec
        subst eA
        subst ec
        have HNBr := Lib.hid (show NB wr w.heap.size (.agg #[.bool false, .slice A5 j c5]) z (n + 1) from ⟨A5, j, c5, R, by rw [HSG.out], ho6.mono HLB.out, hs6, HRN.out, by rw [hdvR, ← HZ.out, sgn_abs, HDV.out], by omega⟩)
        have k5_0 : wr.cell? ⟨g5, 0, none⟩ = some (.bool false) := HK5.out.cell 0
        have k5_1 : wr.cell? ⟨g5, 1, none⟩ = some (.slice A5 j c5) := HK5.out.cell 1
        have HKR := Lib.hid (show Blk wr w.heap.size 37 #[.bool false, .slice none 0 0] from HK.out.below (by rw [HW05.out]; exact HBW.out))
        have HBR := Lib.hid (HB.out.trans (HBW.out.mono (by have := HG4.out; omega)))
        clear ho6 hs6 hdvR
        go_wp2_with (refine wpList_store_row (o := ⟨none, _, _, _, _, _⟩) rfl 37 _ _ rfl (w.heap.size) #[.bool false, .slice A5 j c5] rfl rfl 37 _ HKR.out (by kernel_rfl) rfl (by simp [Value.oneCell']) ?_)
        refine bodyPost_ret (results_c1 rfl _ _ _ (w.heap.size) _ rfl (load24 (HKR.out.setRow (ds := #[.bool false, .slice A5 j c5])) rfl)) rfl ?_
        exact ⟨_, rfl, HNBr.out.row HKR.out _, HBR.out.grown (grown_row wr (w.heap.size) _) HBR.out.size (fun k hk => by injection hk with hk; omega)⟩
  · subst e
    have HSE := Lib.hid (show decide (0 < n1) = sg by rw [hsg]; simp)
    clear hsg
    go_wp2_with fail
    rw [HSE.out, ← HW1.out]
    go_loopw [6, 7] (fun s6 _ wr => ∃ (j : Nat) (R : List Nat) (A5 : Option Addr) (c5 : Nat) (i : Int), s6 = .int .i64 i ∧ i = 2 * (j : Int) ∧ 2 * j ≤ n1 + 1 ∧ R.length = j ∧ dok 4294967296 R ∧ dv 4294967296 R = dv 65536 (L1.take (2 * j)) ∧ wr.ownsRow B0 86 1 (.slice A5 j c5) j (dcl R) ∧ Blk wr g5 37 #[.bool sg, .slice A5 j c5] ∧ Below g5 W0 wr ∧ B0 ≤ wr.heap.size) (fun s6 _ _ => n1 + 2 - (intOf s6).toNat)
    case atStart => exact ⟨0, [], none, 0, _, rfl, rfl, by omega, rfl, dok_nil _, rfl, World.ownsRow_nil _ _ _ _, HK5.out, by have h := HBb.out; rw [HW05.out] at h; exact h, SZ0.out⟩
    case round =>
      obtain ⟨j, R, A5, c5, i, rfl, hi2, hj, hRl, hRd, hinv, ho, hk5, hb, hsz⟩ := hrel
      replace HK5 := Lib.hid hk5
      have HI := Lib.hid hinv
      have HR := Lib.hid hRd
      have HRL := Lib.hid hRl
      have HOW := Lib.hid ho
      have HBW := Lib.hid hb
      have SZ := Lib.hid hsz
      clear hinv hRd hRl ho hk5 hb hsz HK4 HB1 HBb SZ0
      by_cases h1 : 2 * j < n1
      · have h1I : i < (n1 : Int) := by omega
        have hiN : i = ((2 * j : Nat) : Int) := by omega
        obtain ⟨b, off, rfl, hbl, hcell⟩ := HA.out (by omega)
        obtain ⟨d, hd⟩ : ∃ d, L1[2 * j]? = some d := ⟨_, List.getElem?_eq_getElem (by rw [HL.out]; exact h1)⟩
        have c0 := hcell wr (by rw [HW05.out]; exact HBW.out) (2 * j) d hd
        have hdB := dok_at HKL.out hd
        have HDd := Lib.hid hd
        obtain ⟨q, hq⟩ : ∃ q, q = 2 * j := ⟨_, rfl⟩
        rw [← hq] at c0 hiN
        subst hiN
        have HQ := Lib.hid hq
        clear hd hi2
        by_cases h2 : 2 * j + 1 < n1
        · have h2I : (q : Int) + 1 < (n1 : Int) := by omega
          obtain ⟨e, he⟩ : ∃ e, L1[2 * j + 1]? = some e := ⟨_, List.getElem?_eq_getElem (by rw [HL.out]; exact h2)⟩
          have c02 := hcell wr (by rw [HW05.out]; exact HBW.out) (2 * j + 1) e he
          rw [← hq] at c02
          have heB := dok_at HKL.out he
          have HDe := Lib.hid he
          clear he hcell hq
          obtain ⟨x, hx⟩ : ∃ x, x = d + 65536 * e := ⟨_, rfl⟩
          have hxI : (d : Int) + 65536 * (e : Int) = (x : Int) := by omega
          have hxB : x < 4294967296 := by omega
          have HST := Lib.hid (show dv 4294967296 (R ++ [x]) = dv 65536 (L1.take (2 * (j + 1))) from by
            rw [dv_app, HRL.out, HI.out, show 2 * (j + 1) = 2 * j + 1 + 1 by omega, dv_take_succ 65536 L1 (2 * j + 1) e HDe.out, dv_take_succ 65536 L1 (2 * j) d HDd.out, hx]
            simp only [dv, Nat.mul_zero, Nat.add_zero, Nat.pow_succ, Nat.pow_mul]
            grind)
          have HDK := Lib.hid (show dok 4294967296 (R ++ [x]) from dok_app.2 ⟨HR.out, fun y hy => by obtain rfl : y = x := (by simpa using hy); exact hxB⟩)
          have hjq : j + 1 ≤ n1 := by omega
          have HJ1 := Lib.hid (show 2 * (j + 1) ≤ n1 + 1 by omega)
          have HI2 := Lib.hid (show (q : Int) + 2 = 2 * ((j + 1 : Nat) : Int) by have := HQ.out; omega)
          clear hx
          obtain ⟨W3, hW3⟩ : ∃ V, V = wr.alloc (.cells #[.int .u32 ((x : Nat) : Int)] 86) := ⟨_, rfl⟩
          have HO3 := Lib.hid (show W3.ownsRow B0 86 1 (.slice A5 j c5) j (dcl R) by rw [hW3]; exact HOW.out.alloc _)
          have HB3 := Lib.hid (show Below g5 W0 W3 by rw [hW3]; exact HBW.out.alloc (Nat.le_of_lt HK5.out.lt) _)
          have SZ3 := Lib.hid (show B0 ≤ W3.heap.size by rw [hW3]; have := SZ.out; simp; omega)
          have HK3 := Lib.hid (show Blk W3 g5 37 #[.bool sg, .slice A5 j c5] by rw [hW3]; exact HK5.out.alloc _)
          have HN3 : Hid (Src Try.prog 1 35 (.slice (some ⟨wr.heap.size, 0, none⟩) 1 1) 1 [.int .u32 ((x : Nat) : Int)] W3) := Lib.hid (src_blk (c := 1) Try.underlying35 rfl (by intro u hu; obtain rfl : u = .int .u32 ((x : Nat) : Int) := (by simpa using hu); rfl) (show Blk W3 wr.heap.size 86 [Value.int .u32 ((x : Nat) : Int)].toArray by rw [hW3]; exact Blk.new _ _ _))
          have w3_0 : wr.cell? ⟨g5, 1, none⟩ = some (.slice A5 j c5) := HK5.out.cell 1
          have w3_1 : W3.cell? ⟨g5, 1, none⟩ = some (.slice A5 j c5) := HK3.out.cell 1
          subst hW3
          go_wp2_with (at_builtin; go_loud (refine wpList_append_src _ rfl _ _ 35 35 rfl B0 86 i0 _ 1 4 Try.underlying35 hi hz0 hz1 hz2 rfl (.slice A5 j c5) j _ rfl HO3.out _ 1 _ rfl HN3.out ?c1 ?c2 SZ3.out ?_))
          case c1 => unfold maxLen; omega
          case c2 => omega
          intro v' w6 own' hg _
          have hne : some g5 ≠ (Value.slice A5 j c5).ownBlock := fun e => by
            have := (HO3.out.lt g5 e.symm).1
            have := HG5.out
            omega
          have HBF := Lib.hid (show Below g5 W0 w6 from HB3.out.grown hg (by have := SZ3.out; have := HG5.out; omega) (fun k hk => by have := (HO3.out.lt k hk).1; have := HG5.out; omega))
          have HK6 := Lib.hid (show Blk w6 g5 37 #[.bool sg, .slice A5 j c5] from (hg.block g5 (by have := HK3.out.lt; exact this) hne).trans HK3.out)
          have SZ6 := Lib.hid (Nat.le_trans SZ3.out hg.size)
          obtain ⟨A6, a6, rfl, -⟩ := At.of_own own'
          have s1 := store_step HK6.out 1 (.slice A6 (j + 1) a6)
          have HO6 := Lib.hid (show (w6.setCell ⟨g5, 1, none⟩ (.slice A6 (j + 1) a6)).ownsRow B0 86 1 (.slice A6 (j + 1) a6) (j + 1) (dcl (R ++ [x])) from by
            rw [show dcl (R ++ [x]) = dcl R ++ [.int .u32 ((x : Nat) : Int)] by simp [dcl]]
            refine own'.kept (grown_set w6 g5 1 _) (Or.inr (fun e => ?_))
            have := (own'.lt g5 e).1
            have := HG5.out
            omega)
          have KA := Lib.hid s1.1
          have KC := Lib.hid (s1.2.2 _ _ HBF.out (Nat.le_refl _))
          have k6_1 : w6.cell? ⟨g5, 1, none⟩ = some (.slice A5 j c5) := HK6.out.cell 1
          have f6_1 : w6.frozen? ⟨g5, 1, none⟩ = false := Joins.unfrozen_of_block HK6.out _
          clear own' hg s1 hne HO3 HB3 HN3 w3_1 w3_0
          go_wp2
          go_roundw
          case rel => exact ⟨j + 1, R ++ [x], A6, a6, _, rfl, HI2.out, HJ1.out, by rw [List.length_append, HRL.out]; rfl, HDK.out, HST.out, HO6.out, KA.out, KC.out, by simpa [World.setCell] using SZ6.out⟩
          case measure => simp only [intOf]; omega
        · have h2I : ¬ (q : Int) + 1 < (n1 : Int) := by omega
          obtain ⟨x, hx⟩ : ∃ x, x = d := ⟨_, rfl⟩
          subst hx
          have HST := Lib.hid (show dv 4294967296 (R ++ [x]) = dv 65536 (L1.take (2 * (j + 1))) from by
            rw [dv_app, HRL.out, HI.out, show 2 * (j + 1) = 2 * j + 1 + 1 by omega, List.take_of_length_le (show L1.length ≤ 2 * j + 1 + 1 by rw [HL.out]; omega)]
            have h5 := dv_take_succ 65536 L1 (2 * j) x HDd.out
            rw [List.take_of_length_le (show L1.length ≤ 2 * j + 1 by rw [HL.out]; omega)] at h5
            rw [h5]
            simp only [dv, Nat.mul_zero, Nat.add_zero, Nat.pow_mul])
          have HDK := Lib.hid (show dok 4294967296 (R ++ [x]) from dok_app.2 ⟨HR.out, fun y hy => by obtain rfl : y = x := (by simpa using hy); omega⟩)
          have hjq : j + 1 ≤ n1 := by omega
          have HJ1 := Lib.hid (show 2 * (j + 1) ≤ n1 + 1 by omega)
          have HI2 := Lib.hid (show (q : Int) + 2 = 2 * ((j + 1 : Nat) : Int) by have := HQ.out; omega)
          clear hcell hq
          obtain ⟨W3, hW3⟩ : ∃ V, V = wr.alloc (.cells #[.int .u32 ((x : Nat) : Int)] 86) := ⟨_, rfl⟩
          have HO3 := Lib.hid (show W3.ownsRow B0 86 1 (.slice A5 j c5) j (dcl R) by rw [hW3]; exact HOW.out.alloc _)
          have HB3 := Lib.hid (show Below g5 W0 W3 by rw [hW3]; exact HBW.out.alloc (Nat.le_of_lt HK5.out.lt) _)
          have SZ3 := Lib.hid (show B0 ≤ W3.heap.size by rw [hW3]; have := SZ.out; simp; omega)
          have HK3 := Lib.hid (show Blk W3 g5 37 #[.bool sg, .slice A5 j c5] by rw [hW3]; exact HK5.out.alloc _)
          have HN3 : Hid (Src Try.prog 1 35 (.slice (some ⟨wr.heap.size, 0, none⟩) 1 1) 1 [.int .u32 ((x : Nat) : Int)] W3) := Lib.hid (src_blk (c := 1) Try.underlying35 rfl (by intro u hu; obtain rfl : u = .int .u32 ((x : Nat) : Int) := (by simpa using hu); rfl) (show Blk W3 wr.heap.size 86 [Value.int .u32 ((x : Nat) : Int)].toArray by rw [hW3]; exact Blk.new _ _ _))
          have w3_0 : wr.cell? ⟨g5, 1, none⟩ = some (.slice A5 j c5) := HK5.out.cell 1
          have w3_1 : W3.cell? ⟨g5, 1, none⟩ = some (.slice A5 j c5) := HK3.out.cell 1
          subst hW3
          go_wp2_with (at_builtin; go_loud (refine wpList_append_src _ rfl _ _ 35 35 rfl B0 86 i0 _ 1 4 Try.underlying35 hi hz0 hz1 hz2 rfl (.slice A5 j c5) j _ rfl HO3.out _ 1 _ rfl HN3.out ?c1 ?c2 SZ3.out ?_))
          case c1 => unfold maxLen; omega
          case c2 => omega
          intro v' w6 own' hg _
          have hne : some g5 ≠ (Value.slice A5 j c5).ownBlock := fun e => by
            have := (HO3.out.lt g5 e.symm).1
            have := HG5.out
            omega
          have HBF := Lib.hid (show Below g5 W0 w6 from HB3.out.grown hg (by have := SZ3.out; have := HG5.out; omega) (fun k hk => by have := (HO3.out.lt k hk).1; have := HG5.out; omega))
          have HK6 := Lib.hid (show Blk w6 g5 37 #[.bool sg, .slice A5 j c5] from (hg.block g5 (by have := HK3.out.lt; exact this) hne).trans HK3.out)
          have SZ6 := Lib.hid (Nat.le_trans SZ3.out hg.size)
          obtain ⟨A6, a6, rfl, -⟩ := At.of_own own'
          have s1 := store_step HK6.out 1 (.slice A6 (j + 1) a6)
          have HO6 := Lib.hid (show (w6.setCell ⟨g5, 1, none⟩ (.slice A6 (j + 1) a6)).ownsRow B0 86 1 (.slice A6 (j + 1) a6) (j + 1) (dcl (R ++ [x])) from by
            rw [show dcl (R ++ [x]) = dcl R ++ [.int .u32 ((x : Nat) : Int)] by simp [dcl]]
            refine own'.kept (grown_set w6 g5 1 _) (Or.inr (fun e => ?_))
            have := (own'.lt g5 e).1
            have := HG5.out
            omega)
          have KA := Lib.hid s1.1
          have KC := Lib.hid (s1.2.2 _ _ HBF.out (Nat.le_refl _))
          have k6_1 : w6.cell? ⟨g5, 1, none⟩ = some (.slice A5 j c5) := HK6.out.cell 1
          have f6_1 : w6.frozen? ⟨g5, 1, none⟩ = false := Joins.unfrozen_of_block HK6.out _
          clear own' hg s1 hne HO3 HB3 HN3 w3_1 w3_0
          go_wp2
          go_roundw
          case rel => exact ⟨j + 1, R ++ [x], A6, a6, _, rfl, HI2.out, HJ1.out, by rw [List.length_append, HRL.out]; rfl, HDK.out, HST.out, HO6.out, KA.out, KC.out, by simpa [World.setCell] using SZ6.out⟩
          case measure => simp only [intOf]; omega
      · have h1I : ¬ i < (n1 : Int) := by omega
        have hdvR : dv 4294967296 R = dv 65536 L1 := by
          rw [HI.out, List.take_of_length_le (show L1.length ≤ 2 * j by rw [HL.out]; omega)]
        have HRN := Lib.hid (show nmz R from nmz_of_low (by decide) R HR.out (fun h0 => by
          rw [HRL.out] at h0 ⊢
          have h3 := nmz_low (B := 65536) (by decide) L1 HNM.out (by rw [HL.out]; omega)
          rw [HL.out] at h3
          rw [hdvR, show (4294967296 : Nat) = 65536 ^ 2 by decide, ← Nat.pow_mul]
          exact Nat.le_trans (Nat.pow_le_pow_right (by decide) (by omega)) h3))
        obtain ⟨A6, c6, e6, ho6, hs6⟩ := own_row HOW.out HR.out
        injection e6 with eA _ ec
        subst eA
        subst ec
        have HNBr := Lib.hid (show NB wr w.heap.size (.agg #[.bool sg, .slice A5 j c5]) z (n + 1) from ⟨A5, j, c5, R, by rw [HSG.out], ho6.mono HLB.out, hs6, HRN.out, by rw [hdvR, ← HZ.out, sgn_abs, HDV.out], by omega⟩)
        have k5_0 : wr.cell? ⟨g5, 0, none⟩ = some (.bool sg) := HK5.out.cell 0
        have k5_1 : wr.cell? ⟨g5, 1, none⟩ = some (.slice A5 j c5) := HK5.out.cell 1
        have HKR := Lib.hid (show Blk wr w.heap.size 37 #[.bool false, .slice none 0 0] from HK.out.below (by rw [HW05.out]; exact HBW.out))
        have HBR := Lib.hid (HB.out.trans (HBW.out.mono (by have := HG4.out; omega)))
        clear ho6 hs6 hdvR
        go_wp2_with (refine wpList_store_row (o := ⟨none, _, _, _, _, _⟩) rfl 37 _ _ rfl (w.heap.size) #[.bool sg, .slice A5 j c5] rfl rfl 37 _ HKR.out (by kernel_rfl) rfl (by simp [Value.oneCell']) ?_)
        refine bodyPost_ret (results_c1 rfl _ _ _ (w.heap.size) _ rfl (load24 (HKR.out.setRow (ds := #[.bool sg, .slice A5 j c5])) rfl)) rfl ?_
        exact ⟨_, rfl, HNBr.out.row HKR.out _, HBR.out.grown (grown_row wr (w.heap.size) _) HBR.out.size (fun k hk => by injection hk with hk; omega)⟩

theorem dv_halves (R : List Nat) (i d lo hx X : Nat) (hR : R.length = 2 * i) (hl : lo = d % 65536) (hh : hx = d / 65536) (h : dv 65536 R = X) : dv 65536 (R ++ [lo, hx]) = X + 4294967296 ^ i * d := by
  rw [dv_app, hR, h, show (4294967296 : Nat) = 65536 ^ 2 by decide, ← Nat.pow_mul]
  have h1 := Nat.mod_add_div d 65536
  simp only [dv, Nat.mul_zero, Nat.add_zero]
  rw [hl, hh, h1]
set_option maxRecDepth 100000 in
set_option maxHeartbeats 4000000 in
theorem halves_any (v : Value) (z : Int) (N : Nat) (w : World) (h : BG w v z N) (hN : N ≤ 4000000) : Calls Try.prog 65 #[v] w fun e w' => ∃ v, e = .returned v ∧ HV w' v z.natAbs (2 * N) ∧ Below w.heap.size w w' := by
  obtain ⟨i0, hi, hz0, hz1, hz2⟩ := info_parts (show (Try.prog.info? 3).map (fun i => (i.zero, i.size, i.bytes)) = some (some (.int .i64 0), 1, 8) by kernel_rfl)
  obtain ⟨neg, A, n, c, D, rfl, hd, hs, hn, hz⟩ := h
  have HZ := Lib.hid (show z.natAbs = dv 4294967296 D by rw [hz, sgn_abs])
  obtain ⟨W0, hW0⟩ : ∃ V, V = w.alloc (.cells #[.bool neg, .slice A n c] 37) := ⟨_, rfl⟩
  have HB := Lib.hid (show Below w.heap.size w W0 by rw [hW0]; exact (Below.refl _ w).alloc (Nat.le_refl _) _)
  have HK := Lib.hid (show Blk W0 w.heap.size 37 #[.bool neg, .slice A n c] by rw [hW0]; exact Blk.new _ _ _)
  have HD0 := Lib.hid (hd.below HB.out)
  have HA := Lib.hid HD0.out.at
  have HL := Lib.hid hd.1
  have HDk := Lib.hid hd.2.1
  have HG1 := Lib.hid (show W0.heap.size = w.heap.size + 1 by rw [hW0]; simp)
  obtain ⟨W1, hW1⟩ : ∃ V, V = W0.alloc (.cells #[] 3) := ⟨_, rfl⟩
  obtain ⟨B0, hB0⟩ : ∃ V, V = W0.heap.size := ⟨_, rfl⟩
  have HO1 := Lib.hid (show W1.ownsRow B0 3 1 (.slice (some ⟨w.heap.size + 1, 0, none⟩) 0 0) 0 (hcl []) by rw [hW1, hB0, ← HG1.out]; exact own_new (Nat.le_refl _))
  have HB1 := Lib.hid (show Below B0 W0 W1 by rw [hW1, hB0]; exact (Below.refl _ W0).alloc (Nat.le_refl _) _)
  have SZ1 := Lib.hid (show B0 ≤ W1.heap.size by rw [hW1, hB0]; simp)
  have HB0 := Lib.hid hB0
  have HWW := Lib.hid (show W1 = (w.alloc (.cells #[.bool neg, .slice A n c] 37)).alloc (.cells #[] 3) by rw [hW1, hW0])
  clear hd hs hz hW0 hW1 hB0
  go_enter Try.func65, Try.ntmps65
  go_wp2
  rw [← HWW.out]
  go_loopw [3, 4] (fun s3 s4 wr => ∃ (i : Nat) (R : List Nat) (A5 : Option Addr) (c5 : Nat), s3 = .slice A5 (2 * i) c5 ∧ s4 = .int .i64 (i : Int) ∧ i ≤ n ∧ R.length = 2 * i ∧ dok 65536 R ∧ dv 65536 R = dv 4294967296 (D.take i) ∧ wr.ownsRow B0 3 1 (.slice A5 (2 * i) c5) (2 * i) (hcl R) ∧ Below B0 W0 wr ∧ B0 ≤ wr.heap.size) (fun _ s4 _ => n + 1 - (intOf s4).toNat)
  case atStart => exact ⟨0, [], _, _, rfl, rfl, Nat.zero_le _, rfl, dok_nil _, rfl, HO1.out, HB1.out, SZ1.out⟩
  case round =>
    obtain ⟨i, R, A5, c5, rfl, rfl, hin, hRl, hRd, hinv, ho, hb, hsz⟩ := hrel
    have HI := Lib.hid hinv
    have HR := Lib.hid hRd
    have HRL := Lib.hid hRl
    have HOW := Lib.hid ho
    have HBW := Lib.hid hb
    have SZ := Lib.hid hsz
    have HBr := Lib.hid (show Below W0.heap.size W0 wr by have h := HBW.out; rw [HB0.out] at h; exact h)
    have k1_1 : wr.cell? ⟨w.heap.size, 1, none⟩ = some (.slice A n c) := (HK.out.below HBr.out).cell 1
    clear hinv hRd hRl ho hb hsz HO1 HB1 SZ1
    by_cases h1 : i < n
    · have h1I : (i : Int) < (n : Int) := by omega
      obtain ⟨b, off, rfl, hbl, hcell⟩ := HA.out (by omega)
      obtain ⟨d, hd⟩ : ∃ d, D[i]? = some d := ⟨_, List.getElem?_eq_getElem (by rw [HL.out]; exact h1)⟩
      have c0 := hcell wr HBr.out i d hd
      have hdB := dok_at HDk.out hd
      have HDd := Lib.hid hd
      obtain ⟨lo, hlo⟩ : ∃ lo, lo = d % 65536 := ⟨_, rfl⟩
      obtain ⟨hx, hhx⟩ : ∃ hx, hx = d / 65536 := ⟨_, rfl⟩
      have m1 : (d : Int) % 65536 = (lo : Int) := by omega
      have m1t : (d : Int).tmod 65536 = (lo : Int) := by rw [Int.tmod_eq_emod_of_nonneg (by omega)]; omega
      have m2 : (d : Int) / 65536 = (hx : Int) := by omega
      have m2t : (d : Int).tdiv 65536 = (hx : Int) := by rw [Int.tdiv_eq_ediv_of_nonneg (by omega)]; omega
      have hloB : lo < 65536 := by omega
      have hhxB : hx < 65536 := by omega
      have HST := Lib.hid (show dv 65536 (R ++ [lo, hx]) = dv 4294967296 (D.take (i + 1)) from by
        rw [dv_take_succ 4294967296 D i d hd]
        exact dv_halves R i d lo hx _ HRL.out hlo hhx HI.out)
      have HDK := Lib.hid (show dok 65536 (R ++ [lo, hx]) from dok_app.2 ⟨HR.out, fun y hy => by
        simp at hy
        rcases hy with rfl | rfl
        · exact hloB
        · exact hhxB⟩)
      have HRL2 := Lib.hid (show (R ++ [lo, hx]).length = 2 * (i + 1) by rw [List.length_append, HRL.out]; simp; omega)
      have wl : IntKind.i64.wrap (lo : Int) = (lo : Int) := by simp only [IntKind.wrap_i64]; omega
      have wh : IntKind.i64.wrap (hx : Int) = (hx : Int) := by simp only [IntKind.wrap_i64]; omega
      have wu : IntKind.u32.wrap (hx : Int) = (hx : Int) := by simp only [IntKind.wrap_u32]; omega
      clear hcell hd hlo hhx
      go_upto_region 5 with fail
      have hy0 : Below wr.heap.size wr wr.drew := below_drew (Below.refl _ _)
      refine wp_region_mix 16 (fun w' => Below wr.heap.size wr w') (by kernel_rfl) (by decide) ?_
      generalize wr.drew = y0 at hy0 ⊢
      refine wpM_take (i := 0) (oi := ⟨some 13, _, _, _, _, _⟩) (v := ?_) rfl (by decide +kernel) (by decide +kernel) (by decide +kernel) (fun _ _ _ h => h) (Or.inl ⟨by rfl, ?_⟩) hy0 ?_
      case refine_2 =>
        intro w' hSw
        have k1_1' := keepcell hSw k1_1
        have c0' := keepcell hSw c0
        go_simp
        try (with_reducible rfl)
      try simp only [Act.put, List.setIfInBounds_toArray, List.set_cons_zero, List.set_cons_succ]
      refine wpM_take (i := 1) (oi := ⟨some 14, _, _, _, _, _⟩) (v := ?_) rfl (by decide +kernel) (by decide +kernel) (by decide +kernel) (fun _ _ _ h => h) (Or.inl ⟨by rfl, ?_⟩) hy0 ?_
      case refine_2 =>
        intro w' hSw
        have k1_1' := keepcell hSw k1_1
        have c0' := keepcell hSw c0
        go_simp
        try (with_reducible rfl)
      try simp only [Act.put, List.setIfInBounds_toArray, List.set_cons_zero, List.set_cons_succ]
      refine wpM_take (i := 2) (oi := ⟨some 15, _, _, _, _, _⟩) (v := ?_) rfl (by decide +kernel) (by decide +kernel) (by decide +kernel) (fun _ _ _ h => h) (Or.inl ⟨by rfl, ?_⟩) hy0 ?_
      case refine_2 =>
        intro w' hSw
        have k1_1' := keepcell hSw k1_1
        have c0' := keepcell hSw c0
        go_simp
        try (with_reducible rfl)
      try simp only [Act.put, List.setIfInBounds_toArray, List.set_cons_zero, List.set_cons_succ]
      refine wpM_take (i := 3) (oi := ⟨some 16, _, _, _, _, _⟩) (v := ?_) rfl (by decide +kernel) (by decide +kernel) (by decide +kernel) (fun _ _ _ h => h) (Or.inl ⟨by rfl, ?_⟩) hy0 ?_
      case refine_2 =>
        intro w' hSw
        have k1_1' := keepcell hSw k1_1
        have c0' := keepcell hSw c0
        go_simp
        try (with_reducible rfl)
      try simp only [Act.put, List.setIfInBounds_toArray, List.set_cons_zero, List.set_cons_succ]
      refine wpM_take (i := 4) (oi := ⟨some 17, _, _, _, _, _⟩) (v := ?_) rfl (by decide +kernel) (by decide +kernel) (by decide +kernel) (fun _ _ _ h => h) (Or.inl ⟨by rfl, ?_⟩) hy0 ?_
      case refine_2 =>
        intro w' hSw
        have k1_1' := keepcell hSw k1_1
        have c0' := keepcell hSw c0
        go_simp
        try (with_reducible rfl)
      try simp only [Act.put, List.setIfInBounds_toArray, List.set_cons_zero, List.set_cons_succ]
      refine wpM_take (i := 5) (oi := ⟨some 18, _, _, _, _, _⟩) (v := ?_) rfl (by decide +kernel) (by decide +kernel) (by decide +kernel) (fun _ _ _ h => h) (Or.inl ⟨by rfl, ?_⟩) hy0 ?_
      case refine_2 =>
        intro w' hSw
        have k1_1' := keepcell hSw k1_1
        have c0' := keepcell hSw c0
        go_simp
        try (with_reducible rfl)
      try simp only [Act.put, List.setIfInBounds_toArray, List.set_cons_zero, List.set_cons_succ]
      refine wpM_take (i := 6) (oi := ⟨some 19, _, _, _, _, _⟩) (v := ?_) rfl (by decide +kernel) (by decide +kernel) (by decide +kernel) (fun _ _ _ h => h) (Or.inl ⟨by rfl, ?_⟩) hy0 ?_
      case refine_2 =>
        intro w' hSw
        have k1_1' := keepcell hSw k1_1
        have c0' := keepcell hSw c0
        go_simp
        try (with_reducible rfl)
      try simp only [Act.put, List.setIfInBounds_toArray, List.set_cons_zero, List.set_cons_succ]
      refine wpM_take (i := 7) (oi := ⟨some 20, _, _, _, _, _⟩) (v := ?_) rfl (by decide +kernel) (by decide +kernel) (by decide +kernel) (fun _ _ _ h => h) (Or.inl ⟨by rfl, ?_⟩) hy0 ?_
      case refine_2 =>
        intro w' hSw
        have k1_1' := keepcell hSw k1_1
        have c0' := keepcell hSw c0
        go_simp
        try (with_reducible rfl)
      try simp only [Act.put, List.setIfInBounds_toArray, List.set_cons_zero, List.set_cons_succ]
      refine wpM_take (i := 8) (oi := ⟨some 21, _, _, _, _, _⟩) (v := ?_) rfl (by decide +kernel) (by decide +kernel) (by decide +kernel) (fun _ _ _ h => h) (Or.inl ⟨by rfl, ?_⟩) hy0 ?_
      case refine_2 =>
        intro w' hSw
        have k1_1' := keepcell hSw k1_1
        have c0' := keepcell hSw c0
        go_simp
        try (with_reducible rfl)
      try simp only [Act.put, List.setIfInBounds_toArray, List.set_cons_zero, List.set_cons_succ]
      refine wpM_take (i := 9) (oi := ⟨some 22, _, _, _, _, _⟩) (v := ?_) rfl (by decide +kernel) (by decide +kernel) (by decide +kernel) (fun _ _ _ h => h) (Or.inl ⟨by rfl, ?_⟩) hy0 ?_
      case refine_2 =>
        intro w' hSw
        have k1_1' := keepcell hSw k1_1
        have c0' := keepcell hSw c0
        go_simp
        try (with_reducible rfl)
      try simp only [Act.put, List.setIfInBounds_toArray, List.set_cons_zero, List.set_cons_succ]
      refine wpM_take (i := 10) (oi := ⟨some 23, _, _, _, _, _⟩) (v := ?_) rfl (by decide +kernel) (by decide +kernel) (by decide +kernel) (fun _ _ _ h => h) (Or.inl ⟨by rfl, ?_⟩) hy0 ?_
      case refine_2 =>
        intro w' hSw
        have k1_1' := keepcell hSw k1_1
        have c0' := keepcell hSw c0
        go_simp
        try (with_reducible rfl)
      try simp only [Act.put, List.setIfInBounds_toArray, List.set_cons_zero, List.set_cons_succ]
      refine wpM_take (i := 11) (oi := ⟨some 24, _, _, _, _, _⟩) (v := ?_) rfl (by decide +kernel) (by decide +kernel) (by decide +kernel) (fun _ _ _ h => h) (Or.inl ⟨by rfl, ?_⟩) hy0 ?_
      case refine_2 =>
        intro w' hSw
        have k1_1' := keepcell hSw k1_1
        have c0' := keepcell hSw c0
        go_simp
        try (with_reducible rfl)
      try simp only [Act.put, List.setIfInBounds_toArray, List.set_cons_zero, List.set_cons_succ]
      refine wpM_take (i := 12) (oi := ⟨some 25, _, _, _, _, _⟩) (v := ?_) rfl (by decide +kernel) (by decide +kernel) (by decide +kernel) (fun _ _ _ h => h) (Or.inl ⟨by rfl, ?_⟩) hy0 ?_
      case refine_2 =>
        intro w' hSw
        have k1_1' := keepcell hSw k1_1
        have c0' := keepcell hSw c0
        go_simp
        try (with_reducible rfl)
      try simp only [Act.put, List.setIfInBounds_toArray, List.set_cons_zero, List.set_cons_succ]
      refine wpM_take (i := 13) (oi := ⟨some 26, _, _, _, _, _⟩) (v := ?_) rfl (by decide +kernel) (by decide +kernel) (by decide +kernel) (fun _ _ _ h => h) (Or.inl ⟨by rfl, ?_⟩) hy0 ?_
      case refine_2 =>
        intro w' hSw
        have k1_1' := keepcell hSw k1_1
        have c0' := keepcell hSw c0
        go_simp
        try (with_reducible rfl)
      try simp only [Act.put, List.setIfInBounds_toArray, List.set_cons_zero, List.set_cons_succ]
      refine wpM_take (i := 14) (oi := ⟨some 27, _, _, _, _, _⟩) (v := ?_) rfl (by decide +kernel) (by decide +kernel) (by decide +kernel) (fun _ _ _ h => h) (Or.inl ⟨by rfl, ?_⟩) hy0 ?_
      case refine_2 =>
        intro w' hSw
        have k1_1' := keepcell hSw k1_1
        have c0' := keepcell hSw c0
        go_simp
        try (with_reducible rfl)
      try simp only [Act.put, List.setIfInBounds_toArray, List.set_cons_zero, List.set_cons_succ]
      refine wpM_step (i := 15) (o := ⟨some 28, _, _, _, _, _⟩) rfl (by decide +kernel) (by decide) (fun K hK => ?_)
      go_simp
      refine hK.out _ _ (hy0.alloc hy0.size _) ?_
      clear hK K
      try simp only [Act.put, List.setIfInBounds_toArray, List.set_cons_zero, List.set_cons_succ]
      refine wpM_done (by decide +kernel) ?_
      simp only [List.drop_succ_cons, List.drop_zero]
      have HOW2 := Lib.hid (own_below HOW.out hy0)
      have HBW2 := Lib.hid (HBW.out.trans (hy0.mono SZ.out))
      have SZ2 := Lib.hid (Nat.le_trans SZ.out hy0.size)
      clear m1 m1t m2 m2t c0 k1_1 hy0 wl wh wu
      obtain ⟨W3, hW3⟩ : ∃ V, V = y0.alloc (.cells #[.int .i64 ((lo : Nat) : Int), .int .i64 ((hx : Nat) : Int)] 3) := ⟨_, rfl⟩
      have HO3 := Lib.hid (show W3.ownsRow B0 3 1 (.slice A5 (2 * i) c5) (2 * i) (hcl R) by rw [hW3]; exact HOW2.out.alloc _)
      have HB3 := Lib.hid (show Below B0 _ W3 by rw [hW3]; exact HBW2.out.alloc SZ2.out _)
      have SZ3 := Lib.hid (show B0 ≤ W3.heap.size by rw [hW3]; have := SZ2.out; simp; omega)
      have HN3 : Hid (Src Try.prog 1 88 (.slice (some ⟨y0.heap.size, 0, none⟩) 2 2) 2 [.int .i64 ((lo : Nat) : Int), .int .i64 ((hx : Nat) : Int)] W3) := Lib.hid (src_blk (c := 2) Try.underlying88 rfl (by intro u hu; simp at hu; rcases hu with rfl | rfl <;> rfl) (show Blk W3 y0.heap.size 3 (List.toArray [.int .i64 ((lo : Nat) : Int), .int .i64 ((hx : Nat) : Int)]) by rw [hW3]; exact Blk.new _ _ _))
      subst hW3
      go_wp2_with (at_builtin; go_loud (refine wpList_append_src _ rfl _ _ 88 88 rfl B0 3 i0 _ 1 8 Try.underlying88 hi hz0 hz1 hz2 rfl (.slice A5 (2 * i) c5) (2 * i) _ rfl HO3.out _ 2 _ rfl HN3.out ?c1 ?c2 SZ3.out ?_))
      case c1 => unfold maxLen; omega
      case c2 => omega
      intro v' w6 own' hg _
      have HOF := Lib.hid (show w6.ownsRow B0 3 1 v' ((2 * i) + 2) (hcl (R ++ [lo, hx])) by
        rw [show hcl (R ++ [lo, hx]) = hcl R ++ [.int .i64 ((lo : Nat) : Int), .int .i64 ((hx : Nat) : Int)] by simp [hcl]]
        exact own')
      have HBF := Lib.hid (show Below B0 _ w6 from HB3.out.grown hg SZ3.out (fun j hj => (HO3.out.lt j hj).1))
      obtain ⟨A6, a6, rfl, -⟩ := At.of_own own'
      have SZ6 := Lib.hid (Nat.le_trans SZ3.out hg.size)
      clear own' hg HO3 HB3 HN3 SZ3
      go_wp2
      go_roundw
      case rel => exact ⟨i + 1, R ++ [lo, hx], A6, a6, rfl, by go_num, by omega, HRL2.out, HDK.out, HST.out, HOF.out, HBF.out, SZ6.out⟩
      case measure => simp only [intOf]; omega
    · have h1I : ¬ (i : Int) < (n : Int) := by omega
      have HX := Lib.hid (show dv 65536 R = z.natAbs from by rw [HI.out, HZ.out, List.take_of_length_le (show D.length ≤ i by rw [HL.out]; omega)])
      obtain ⟨A6, c6, e6, hg6, hs6⟩ := own_hg HOW.out HR.out
      injection e6 with eA _ ec
      subst eA
      subst ec
      have CT := Lib.hid (rtrim_any A5 (2 * i) c5 R wr hg6 hs6)
      rw [HX.out] at CT
      have HBF := Lib.hid (HB.out.trans (HBr.out.mono HB.out.size))
      clear hg6 hs6
      go_wp2_with fail
      refine CT.out.mono ?_
      rintro e w7 ⟨⟨v, rfl, hv⟩, hy⟩
      replace hy := hy.symm
      subst hy
      have HV7 := Lib.hid (hv.mono (show 2 * i ≤ 2 * N by omega))
      clear hv CT
      go_wp2
      go_ret
      exact ⟨_, rfl, HV7.out, HBF.out⟩

theorem big_hv (neg : Bool) (v : Value) (x N : Nat) (w : World) (h : HV w v x N) (hN : N ≤ 9000000) : Calls Try.prog 66 #[.bool neg, v] w fun e w' => ∃ v', e = .returned v' ∧ NB w' w.heap.size v' (sgn neg x) (N + 1) ∧ Below w.heap.size w w' := by
  obtain ⟨A, n, c, L, rfl, hg, hs, hn, hv, hnN⟩ := h
  refine (big_any neg A n c L w hg hs (by omega)).mono ?_
  rintro e w' ⟨v', rfl, h1, hb⟩
  rw [hv] at h1
  exact ⟨v', rfl, h1.mono (Nat.le_refl _) (by omega), hb⟩
theorem plus_hv (v1 v2 : Value) (x y N : Nat) (w : World) (h : HV w v1 x N) (h2 : HV w v2 y N) (hN : N ≤ 9000000) : Calls Try.prog 67 #[v1, v2] w fun e w' => ∃ v', e = .returned v' ∧ HV w' v' (x + y) (N + 1) ∧ Below w.heap.size w w' := by
  obtain ⟨A, n, c, L, rfl, hg, hs, hn, hv, hnN⟩ := h
  obtain ⟨A2, n2, c2, L2, rfl, hg2, hs2, hn2, hv2, hnN2⟩ := h2
  refine (plus_any A n c L A2 n2 c2 L2 w hg hg2 (by omega) (by omega)).mono ?_
  rintro e w' ⟨v', rfl, h1, hb⟩
  rw [hv, hv2] at h1
  exact ⟨v', rfl, h1.mono (by omega), hb⟩
theorem nmz_le16 {D E : List Nat} (hD : dok 65536 D) (hE : dok 65536 E) (n1 : nmz D) (h : dv 65536 D ≤ dv 65536 E) : D.length ≤ E.length := by
  rcases Nat.lt_or_ge E.length D.length with g | g
  · have := nmz_len (by decide) E D hE hD n1 g; omega
  · exact g
theorem minus_hv (v1 v2 : Value) (x y N : Nat) (w : World) (h : HV w v1 x N) (h2 : HV w v2 y N) (hN : N ≤ 9000000) (hle : y ≤ x) : Calls Try.prog 68 #[v1, v2] w fun e w' => ∃ v', e = .returned v' ∧ HV w' v' (x - y) N ∧ Below w.heap.size w w' := by
  obtain ⟨A, n, c, L, rfl, hg, hs, hn, hv, hnN⟩ := h
  obtain ⟨A2, n2, c2, L2, rfl, hg2, hs2, hn2, hv2, hnN2⟩ := h2
  have h3 := nmz_le16 hg2.2.1 hg.2.1 hn2 (by rw [hv, hv2]; exact hle)
  rw [hg.1, hg2.1] at h3
  refine (minus_any A n c L A2 n2 c2 L2 w hg hg2 (by omega) h3 (by rw [hv, hv2]; exact hle)).mono ?_
  rintro e w' ⟨v', rfl, h1, hb⟩
  rw [hv, hv2] at h1
  exact ⟨v', rfl, h1.mono (by omega), hb⟩
theorem order_hv (v1 v2 : Value) (x y N : Nat) (w : World) (h : HV w v1 x N) (h2 : HV w v2 y N) (hN : N ≤ 9000000) : Calls Try.prog 64 #[v1, v2] w fun e w' => e = .returned (.int .i64 (scmp x y)) ∧ Below w.heap.size w w' := by
  obtain ⟨A, n, c, L, rfl, hg, hs, hn, hv, hnN⟩ := h
  obtain ⟨A2, n2, c2, L2, rfl, hg2, hs2, hn2, hv2, hnN2⟩ := h2
  refine (order_any A n c L A2 n2 c2 L2 w hg hg2 (by omega) (.inr ⟨hn, hn2⟩)).mono ?_
  rintro e w' ⟨rfl, hb⟩
  rw [hv, hv2]
  exact ⟨rfl, hb⟩
theorem sgn_self {na : Bool} {D : Nat} {z : Int} (h : z = sgn na D) : sgn na z.natAbs = z := by rw [h, sgn_abs]
theorem sgn_notz {na : Bool} {D : Nat} {z : Int} (h : z = sgn na D) : sgn (!na) z.natAbs = -z := by rw [h, sgn_abs]; cases na <;> simp [sgn]
set_option maxRecDepth 100000 in
set_option maxHeartbeats 4000000 in
theorem RNormal_any (v : Value) (z : Int) (N : Nat) (w : World) (h : BG w v z N) (hN : N ≤ 4000000) : Calls Try.prog 71 #[v] w fun e w' => ∃ v, e = .returned v ∧ NB w' w.heap.size v (z) (2 * N + 1) ∧ Below w.heap.size w w' := by
  obtain ⟨na, A, n, c, D, rfl, hd, hs, hn, hz⟩ := h
  have HZ := Lib.hid hz
  obtain ⟨W0, hW0⟩ : ∃ V, V = (w.alloc (.cells #[.bool na, .slice A n c] 37)).alloc (.cells #[.bool false, .slice none 0 0] 37) := ⟨_, rfl⟩
  have HB := Lib.hid (show Below w.heap.size w W0 by rw [hW0]; exact ((Below.refl _ w).alloc (Nat.le_refl _) _).alloc (by simp) _)
  have K2 := Lib.hid (show Blk W0 w.heap.size 37 #[.bool na, .slice A n c] by rw [hW0]; exact (Blk.new _ _ _).alloc _)
  have K4 := Lib.hid (show Blk W0 (w.heap.size + 1) 37 #[.bool false, .slice none 0 0] by rw [hW0]; exact Blk.new_ (by simp) rfl)
  have GX := Lib.hid (show BG W0 (.agg #[.bool na, .slice A n c]) z N from BG.below ⟨na, A, n, c, D, rfl, hd, hs, hn, hz⟩ HB.out)
  have K2_0 : W0.cell? ⟨w.heap.size, 0, none⟩ = some (.bool na) := K2.out.cell 0
  have K2_1 : W0.cell? ⟨w.heap.size, 1, none⟩ = some (.slice A n c) := K2.out.cell 1
  clear hd hs hn hz
  go_enter Try.func71, Try.ntmps71
  go_upto_region 1 with fail
  rw [← hW0]
  clear hW0
  have hy0 : Below W0.heap.size W0 W0.drew := below_drew (Below.refl _ _)
  refine wp_region_mix 5 (fun w' => Below W0.heap.size W0 w') (by kernel_rfl) (by decide) ?_
  generalize W0.drew = y0 at hy0 ⊢
  refine wpM_take (i := 0) (oi := ⟨some 3, _, _, _, _, _⟩) (v := ?_) rfl (by decide +kernel) (by decide +kernel) (by decide +kernel) (fun _ _ _ h => h) (Or.inl ⟨by rfl, ?_⟩) hy0 ?_
  case refine_2 =>
    intro w' hSw
    have K2_0' := keepcell hSw K2_0
    have K2_1' := keepcell hSw K2_1
    go_simp
    try (with_reducible rfl)
  try simp only [Act.put, List.setIfInBounds_toArray, List.set_cons_zero, List.set_cons_succ]
  refine wpM_take (i := 1) (oi := ⟨some 4, _, _, _, _, _⟩) (v := ?_) rfl (by decide +kernel) (by decide +kernel) (by decide +kernel) (fun _ _ _ h => h) (Or.inl ⟨by rfl, ?_⟩) hy0 ?_
  case refine_2 =>
    intro w' hSw
    have K2_0' := keepcell hSw K2_0
    have K2_1' := keepcell hSw K2_1
    go_simp
    try (with_reducible rfl)
  try simp only [Act.put, List.setIfInBounds_toArray, List.set_cons_zero, List.set_cons_succ]
  refine wpM_take (i := 2) (oi := ⟨some 5, _, _, _, _, _⟩) (v := ?_) rfl (by decide +kernel) (by decide +kernel) (by decide +kernel) (fun _ _ _ h => h) (Or.inl ⟨by rfl, ?_⟩) hy0 ?_
  case refine_2 =>
    intro w' hSw
    have K2_0' := keepcell hSw K2_0
    have K2_1' := keepcell hSw K2_1
    go_simp
    try (with_reducible rfl)
  try simp only [Act.put, List.setIfInBounds_toArray, List.set_cons_zero, List.set_cons_succ]
  refine wpM_step (i := 3) (o := ⟨some 6, _, _, _, _, _⟩) rfl (by decide +kernel) (by decide) (fun K hK => ?_)
  go_simp
  refine (halves_any _ z N y0 (GX.out.below hy0) (by omega)).mono ?_
  rintro e y1 ⟨v1, rfl, hv, hc⟩
  have hy1 : Below W0.heap.size W0 y1 := hy0.trans (hc.mono hy0.size)
  have H1 := Lib.hid hv
  clear hv
  clear hc
  refine hK.out _ _ hy1 ?_
  clear hK K
  try simp only [Act.put, List.setIfInBounds_toArray, List.set_cons_zero, List.set_cons_succ]
  refine wpM_step (i := 4) (o := ⟨some 7, _, _, _, _, _⟩) rfl (by decide +kernel) (by decide) (fun K hK => ?_)
  go_simp
  refine (big_hv (na) _ z.natAbs (2 * N) y1 H1.out (by omega)).mono ?_
  rintro e y2 ⟨v2, rfl, hv, hc⟩
  have hy2 : Below W0.heap.size W0 y2 := hy1.trans (hc.mono hy1.size)
  have HV := Lib.hid (hv.mono (show w.heap.size ≤ _ from Nat.le_trans HB.out.size hy1.size) (Nat.le_refl _))
  rw [sgn_self HZ.out] at HV
  clear hv
  clear hc
  refine hK.out _ _ hy2 ?_
  clear hK K
  try simp only [Act.put, List.setIfInBounds_toArray, List.set_cons_zero, List.set_cons_succ]
  refine wpM_done (by decide +kernel) ?_
  simp only [List.drop_succ_cons, List.drop_zero]
  clear K2_0 K2_1
  have HB9 := Lib.hid (HB.out.trans (hy2.mono HB.out.size))
  have K9 := Lib.hid (K4.out.below hy2)
  obtain ⟨Ar, nr, cr, Dr, hevr, hor, hsr, hnr, hvr, hNr⟩ := HV.out
  obtain ⟨sbr, hsbr⟩ : ∃ b, b = decide (z < 0) := ⟨_, rfl⟩
  rw [← hsbr] at hevr
  subst hevr
  have HSBr := Lib.hid hsbr
  clear hsbr
  go_wp2_with ((refine wpList_store_row (o := ⟨none, _, _, _, _, _⟩) rfl 37 _ _ rfl (w.heap.size + 1) #[.bool sbr, .slice Ar nr cr] rfl rfl 37 _ K9.out (by kernel_rfl) rfl (by simp [Value.oneCell']) ?_))
  refine bodyPost_ret (results_c1 rfl _ _ _ (w.heap.size + 1) _ rfl (load24 (K9.out.setRow (ds := #[.bool sbr, .slice Ar nr cr])) rfl)) rfl ?_
  exact ⟨_, rfl, NB.row ⟨Ar, nr, cr, Dr, by rw [HSBr.out], hor, hsr, hnr, hvr, hNr⟩ K9.out _, HB9.out.grown (grown_row y2 (w.heap.size + 1) _) HB9.out.size (fun j hj => by first | (injection hj with hj; omega) | omega | (cases hj; exact Nat.le_refl _))⟩
set_option maxRecDepth 100000 in
set_option maxHeartbeats 4000000 in
theorem RNeg_any (v : Value) (z : Int) (N : Nat) (w : World) (h : BG w v z N) (hN : N ≤ 4000000) : Calls Try.prog 48 #[v] w fun e w' => ∃ v, e = .returned v ∧ NB w' w.heap.size v (-z) (2 * N + 1) ∧ Below w.heap.size w w' := by
  obtain ⟨z2, hz2⟩ : ∃ z2, -z = z2 := ⟨_, rfl⟩
  rw [hz2]
  have HZ2 := Lib.hid hz2
  clear hz2
  obtain ⟨na, A, n, c, D, rfl, hd, hs, hn, hz⟩ := h
  have HZ := Lib.hid hz
  obtain ⟨W0, hW0⟩ : ∃ V, V = (w.alloc (.cells #[.bool na, .slice A n c] 37)).alloc (.cells #[.bool false, .slice none 0 0] 37) := ⟨_, rfl⟩
  have HB := Lib.hid (show Below w.heap.size w W0 by rw [hW0]; exact ((Below.refl _ w).alloc (Nat.le_refl _) _).alloc (by simp) _)
  have K2 := Lib.hid (show Blk W0 w.heap.size 37 #[.bool na, .slice A n c] by rw [hW0]; exact (Blk.new _ _ _).alloc _)
  have K4 := Lib.hid (show Blk W0 (w.heap.size + 1) 37 #[.bool false, .slice none 0 0] by rw [hW0]; exact Blk.new_ (by simp) rfl)
  have GX := Lib.hid (show BG W0 (.agg #[.bool na, .slice A n c]) z N from BG.below ⟨na, A, n, c, D, rfl, hd, hs, hn, hz⟩ HB.out)
  have K2_0 : W0.cell? ⟨w.heap.size, 0, none⟩ = some (.bool na) := K2.out.cell 0
  have K2_1 : W0.cell? ⟨w.heap.size, 1, none⟩ = some (.slice A n c) := K2.out.cell 1
  clear hd hs hn hz
  go_enter Try.func48, Try.ntmps48
  go_upto_region 1 with fail
  rw [← hW0]
  clear hW0
  have hy0 : Below W0.heap.size W0 W0.drew := below_drew (Below.refl _ _)
  refine wp_region_mix 6 (fun w' => Below W0.heap.size W0 w') (by kernel_rfl) (by decide) ?_
  generalize W0.drew = y0 at hy0 ⊢
  refine wpM_take (i := 0) (oi := ⟨some 3, _, _, _, _, _⟩) (v := ?_) rfl (by decide +kernel) (by decide +kernel) (by decide +kernel) (fun _ _ _ h => h) (Or.inl ⟨by rfl, ?_⟩) hy0 ?_
  case refine_2 =>
    intro w' hSw
    have K2_0' := keepcell hSw K2_0
    have K2_1' := keepcell hSw K2_1
    go_simp
    try (with_reducible rfl)
  try simp only [Act.put, List.setIfInBounds_toArray, List.set_cons_zero, List.set_cons_succ]
  refine wpM_take (i := 1) (oi := ⟨some 4, _, _, _, _, _⟩) (v := ?_) rfl (by decide +kernel) (by decide +kernel) (by decide +kernel) (fun _ _ _ h => h) (Or.inl ⟨by rfl, ?_⟩) hy0 ?_
  case refine_2 =>
    intro w' hSw
    have K2_0' := keepcell hSw K2_0
    have K2_1' := keepcell hSw K2_1
    go_simp
    try (with_reducible rfl)
  try simp only [Act.put, List.setIfInBounds_toArray, List.set_cons_zero, List.set_cons_succ]
  refine wpM_take (i := 2) (oi := ⟨some 5, _, _, _, _, _⟩) (v := ?_) rfl (by decide +kernel) (by decide +kernel) (by decide +kernel) (fun _ _ _ h => h) (Or.inl ⟨by rfl, ?_⟩) hy0 ?_
  case refine_2 =>
    intro w' hSw
    have K2_0' := keepcell hSw K2_0
    have K2_1' := keepcell hSw K2_1
    go_simp
    try (with_reducible rfl)
  try simp only [Act.put, List.setIfInBounds_toArray, List.set_cons_zero, List.set_cons_succ]
  refine wpM_take (i := 3) (oi := ⟨some 6, _, _, _, _, _⟩) (v := ?_) rfl (by decide +kernel) (by decide +kernel) (by decide +kernel) (fun _ _ _ h => h) (Or.inl ⟨by rfl, ?_⟩) hy0 ?_
  case refine_2 =>
    intro w' hSw
    have K2_0' := keepcell hSw K2_0
    have K2_1' := keepcell hSw K2_1
    go_simp
    try (with_reducible rfl)
  try simp only [Act.put, List.setIfInBounds_toArray, List.set_cons_zero, List.set_cons_succ]
  refine wpM_step (i := 4) (o := ⟨some 7, _, _, _, _, _⟩) rfl (by decide +kernel) (by decide) (fun K hK => ?_)
  go_simp
  refine (halves_any _ z N y0 (GX.out.below hy0) (by omega)).mono ?_
  rintro e y1 ⟨v1, rfl, hv, hc⟩
  have hy1 : Below W0.heap.size W0 y1 := hy0.trans (hc.mono hy0.size)
  have H1 := Lib.hid hv
  clear hv
  clear hc
  refine hK.out _ _ hy1 ?_
  clear hK K
  try simp only [Act.put, List.setIfInBounds_toArray, List.set_cons_zero, List.set_cons_succ]
  refine wpM_step (i := 5) (o := ⟨some 8, _, _, _, _, _⟩) rfl (by decide +kernel) (by decide) (fun K hK => ?_)
  go_simp
  refine (big_hv (!na) _ z.natAbs (2 * N) y1 H1.out (by omega)).mono ?_
  rintro e y2 ⟨v2, rfl, hv, hc⟩
  have hy2 : Below W0.heap.size W0 y2 := hy1.trans (hc.mono hy1.size)
  have HV := Lib.hid (hv.mono (show w.heap.size ≤ _ from Nat.le_trans HB.out.size hy1.size) (Nat.le_refl _))
  rw [sgn_notz HZ.out, HZ2.out] at HV
  clear hv
  clear hc
  refine hK.out _ _ hy2 ?_
  clear hK K
  try simp only [Act.put, List.setIfInBounds_toArray, List.set_cons_zero, List.set_cons_succ]
  refine wpM_done (by decide +kernel) ?_
  simp only [List.drop_succ_cons, List.drop_zero]
  clear K2_0 K2_1
  have HB9 := Lib.hid (HB.out.trans (hy2.mono HB.out.size))
  have K9 := Lib.hid (K4.out.below hy2)
  obtain ⟨Ar, nr, cr, Dr, hevr, hor, hsr, hnr, hvr, hNr⟩ := HV.out
  obtain ⟨sbr, hsbr⟩ : ∃ b, b = decide (z2 < 0) := ⟨_, rfl⟩
  rw [← hsbr] at hevr
  subst hevr
  have HSBr := Lib.hid hsbr
  clear hsbr
  go_wp2_with ((refine wpList_store_row (o := ⟨none, _, _, _, _, _⟩) rfl 37 _ _ rfl (w.heap.size + 1) #[.bool sbr, .slice Ar nr cr] rfl rfl 37 _ K9.out (by kernel_rfl) rfl (by simp [Value.oneCell']) ?_))
  refine bodyPost_ret (results_c1 rfl _ _ _ (w.heap.size + 1) _ rfl (load24 (K9.out.setRow (ds := #[.bool sbr, .slice Ar nr cr])) rfl)) rfl ?_
  exact ⟨_, rfl, NB.row ⟨Ar, nr, cr, Dr, by rw [HSBr.out], hor, hsr, hnr, hvr, hNr⟩ K9.out _, HB9.out.grown (grown_row y2 (w.heap.size + 1) _) HB9.out.size (fun j hj => by first | (injection hj with hj; omega) | omega | (cases hj; exact Nat.le_refl _))⟩

theorem below_ge {w W : World} {g : Nat} (_h : Below w.heap.size w W) (_hg : w.heap.size ≤ g) : True := trivial
set_option maxRecDepth 100000 in
set_option maxHeartbeats 4000000 in
theorem RSign_any (v : Value) (z : Int) (N : Nat) (w : World) (h : BG w v z N) (hN : N ≤ 4000000) : Calls Try.prog 40 #[v] w fun e w' => e = .returned (.int .i64 z.sign) ∧ Below w.heap.size w w' := by
  obtain ⟨na, A, n, c, D, rfl, hd, hs, hn, hz⟩ := h
  have HZ := Lib.hid hz
  obtain ⟨W0, hW0⟩ : ∃ V, V = w.alloc (.cells #[.bool na, .slice A n c] 37) := ⟨_, rfl⟩
  have HB := Lib.hid (show Below w.heap.size w W0 by rw [hW0]; exact (Below.refl _ w).alloc (Nat.le_refl _) _)
  have K2 := Lib.hid (show Blk W0 w.heap.size 37 #[.bool na, .slice A n c] by rw [hW0]; exact Blk.new _ _ _)
  have GX := Lib.hid (show BG W0 (.agg #[.bool na, .slice A n c]) z N from BG.below ⟨na, A, n, c, D, rfl, hd, hs, hn, hz⟩ HB.out)
  have K2_0 : W0.cell? ⟨w.heap.size, 0, none⟩ = some (.bool na) := K2.out.cell 0
  have K2_1 : W0.cell? ⟨w.heap.size, 1, none⟩ = some (.slice A n c) := K2.out.cell 1
  clear hd hs hn hz
  go_enter Try.func40, Try.ntmps40
  have CH := Lib.hid (halves_any _ z N W0 GX.out (by omega))
  go_wp2_with fail
  rw [← hW0]
  clear hW0
  refine CH.out.mono ?_
  rintro e w1 ⟨v1, rfl, hv, hb⟩
  obtain ⟨A1, n1, c1, L1, rfl, hg1, hs1, hnm, hdv, hN1⟩ := hv
  replace K2 := Lib.hid (K2.out.below hb)
  replace HB := Lib.hid (HB.out.trans (hb.mono HB.out.size))
  have HE := Lib.hid (show z = 0 ↔ n1 = 0 from by
    have h1 := nmz_zero (B := 65536) (by decide) L1 hnm
    rw [hdv] at h1
    have h2 := hg1.1
    constructor
    · intro e
      have := congrArg List.length (h1.1 (by omega))
      rw [List.length_nil] at this
      omega
    · intro e
      have := h1.2 (List.eq_nil_of_length_eq_zero (by omega))
      omega)
  have k2_0 : w1.cell? ⟨w.heap.size, 0, none⟩ = some (.bool na) := K2.out.cell 0
  clear CH K2_0 K2_1 hg1 hs1 hnm hdv hb
  by_cases h0 : n1 = 0
  · have h1 : ((n1 : Int) == 0) = true := by simp [h0]
    have HR := Lib.hid (show (0 : Int) = z.sign by rw [HE.out.2 h0]; rfl)
    clear h0
    go_wp2_with fail
    go_ret
    exact ⟨by rw [← HR.out]; rfl, HB.out⟩
  · have h1 : ((n1 : Int) == 0) = false := by simp; omega
    have hz0 : z ≠ 0 := fun e => h0 (HE.out.1 e)
    have hD0 : dv 4294967296 D ≠ 0 := fun e => hz0 (by rw [HZ.out, e, sgn_zero])
    clear h0
    cases na with
    | true =>
      have HR := Lib.hid (show (-1 : Int) = z.sign by rw [HZ.out]; unfold sgn; rw [if_pos rfl, Int.sign_neg, Int.sign_natCast_of_ne_zero hD0])
      clear hz0 hD0
      go_wp2_with fail
      go_ret
      exact ⟨by rw [← HR.out]; rfl, HB.out⟩
    | false =>
      have HR := Lib.hid (show (1 : Int) = z.sign by rw [HZ.out]; unfold sgn; rw [if_neg (by decide), Int.sign_natCast_of_ne_zero hD0])
      clear hz0 hD0
      go_wp2_with fail
      go_ret
      exact ⟨by rw [← HR.out]; rfl, HB.out⟩
set_option maxRecDepth 100000 in
set_option maxHeartbeats 4000000 in
theorem RAdd_any (a b : Value) (z1 z2 : Int) (N : Nat) (w : World) (h : BG w a z1 N) (h2 : BG w b z2 N) (hN : N ≤ 3000000) : Calls Try.prog 38 #[a, b] w fun e w' => ∃ v, e = .returned v ∧ NB w' w.heap.size v (z1 + z2) (2 * N + 2) ∧ Below w.heap.size w w' := by
  obtain ⟨z, hz⟩ : ∃ z, z1 + z2 = z := ⟨_, rfl⟩
  rw [hz]
  have HZZ := Lib.hid hz
  clear hz
  obtain ⟨na, A, n, c, D, rfl, hd1, hs1, hn1, hz1⟩ := h
  obtain ⟨nb, A2, m, c2, E, rfl, hd2, hs2, hn2, hz2⟩ := h2
  have HZ1 := Lib.hid hz1
  have HZ2 := Lib.hid hz2
  obtain ⟨W0, hW0⟩ : ∃ V, V = ((w.alloc (.cells #[.bool na, .slice A n c] 37)).alloc (.cells #[.bool nb, .slice A2 m c2] 37)).alloc (.cells #[.bool false, .slice none 0 0] 37) := ⟨_, rfl⟩
  have HB := Lib.hid (show Below w.heap.size w W0 by rw [hW0]; exact (((Below.refl _ w).alloc (Nat.le_refl _) _).alloc (by simp) _).alloc (by simp; omega) _)
  have K2 := Lib.hid (show Blk W0 w.heap.size 37 #[.bool na, .slice A n c] by rw [hW0]; exact ((Blk.new _ _ _).alloc _).alloc _)
  have K3 := Lib.hid (show Blk W0 (w.heap.size + 1) 37 #[.bool nb, .slice A2 m c2] by rw [hW0]; exact (Blk.new_ (by simp) rfl : Blk ((w.alloc _).alloc _) _ _ _).alloc _)
  have K4 := Lib.hid (show Blk W0 (w.heap.size + 1 + 1) 37 #[.bool false, .slice none 0 0] by rw [hW0]; exact Blk.new_ (by simp) rfl)
  have GX := Lib.hid (show BG W0 (.agg #[.bool na, .slice A n c]) z1 N from BG.below ⟨na, A, n, c, D, rfl, hd1, hs1, hn1, hz1⟩ HB.out)
  have GY := Lib.hid (show BG W0 (.agg #[.bool nb, .slice A2 m c2]) z2 N from BG.below ⟨nb, A2, m, c2, E, rfl, hd2, hs2, hn2, hz2⟩ HB.out)
  clear hd1 hs1 hn1 hz1 hd2 hs2 hn2 hz2
  have K2_0 : W0.cell? ⟨w.heap.size, 0, none⟩ = some (.bool na) := K2.out.cell 0
  have K2_1 : W0.cell? ⟨w.heap.size, 1, none⟩ = some (.slice A n c) := K2.out.cell 1
  have K3_0 : W0.cell? ⟨w.heap.size + 1, 0, none⟩ = some (.bool nb) := K3.out.cell 0
  have K3_1 : W0.cell? ⟨w.heap.size + 1, 1, none⟩ = some (.slice A2 m c2) := K3.out.cell 1
  go_enter Try.func38, Try.ntmps38
  go_upto_region 1 with fail
  rw [← hW0]
  clear hW0
  have hy0 : Below W0.heap.size W0 W0.drew := below_drew (Below.refl _ _)
  refine wp_region_mix 4 (fun w' => Below W0.heap.size W0 w') (by kernel_rfl) (by decide) ?_
  generalize W0.drew = y0 at hy0 ⊢
  refine wpM_take (i := 0) (oi := ⟨some 7, _, _, _, _, _⟩) (v := ?_) rfl (by decide +kernel) (by decide +kernel) (by decide +kernel) (fun _ _ _ h => h) (Or.inl ⟨by rfl, ?_⟩) hy0 ?_
  case refine_2 =>
    intro w' hSw
    have K2_0' := keepcell hSw K2_0
    have K2_1' := keepcell hSw K2_1
    have K3_0' := keepcell hSw K3_0
    have K3_1' := keepcell hSw K3_1
    go_simp
    try (with_reducible rfl)
  try simp only [Act.put, List.setIfInBounds_toArray, List.set_cons_zero, List.set_cons_succ]
  refine wpM_take (i := 2) (oi := ⟨some 9, _, _, _, _, _⟩) (v := ?_) rfl (by decide +kernel) (by decide +kernel) (by decide +kernel) (fun _ _ _ h => h) (Or.inl ⟨by rfl, ?_⟩) hy0 ?_
  case refine_2 =>
    intro w' hSw
    have K2_0' := keepcell hSw K2_0
    have K2_1' := keepcell hSw K2_1
    have K3_0' := keepcell hSw K3_0
    have K3_1' := keepcell hSw K3_1
    go_simp
    try (with_reducible rfl)
  try simp only [Act.put, List.setIfInBounds_toArray, List.set_cons_zero, List.set_cons_succ]
  refine wpM_step (i := 1) (o := ⟨some 8, _, _, _, _, _⟩) rfl (by decide +kernel) (by decide) (fun K hK => ?_)
  go_simp
  refine (halves_any _ z1 N y0 (GX.out.below hy0) (by omega)).mono ?_
  rintro e y1 ⟨v1, rfl, hv, hc⟩
  have hy1 : Below W0.heap.size W0 y1 := hy0.trans (hc.mono hy0.size)
  have H1 := Lib.hid hv
  clear hv
  clear hc
  refine hK.out _ _ hy1 ?_
  clear hK K
  try simp only [Act.put, List.setIfInBounds_toArray, List.set_cons_zero, List.set_cons_succ]
  refine wpM_step (i := 3) (o := ⟨some 10, _, _, _, _, _⟩) rfl (by decide +kernel) (by decide) (fun K hK => ?_)
  go_simp
  refine (halves_any _ z2 N y1 (GY.out.below hy1) (by omega)).mono ?_
  rintro e y2 ⟨v2, rfl, hv, hc⟩
  have hy2 : Below W0.heap.size W0 y2 := hy1.trans (hc.mono hy1.size)
  have H2 := Lib.hid hv
  replace H1 := Lib.hid (H1.out.below hc)
  clear hv
  clear hc
  refine hK.out _ _ hy2 ?_
  clear hK K
  try simp only [Act.put, List.setIfInBounds_toArray, List.set_cons_zero, List.set_cons_succ]
  refine wpM_done (by decide +kernel) ?_
  simp only [List.drop_succ_cons, List.drop_zero]
  clear K2_0 K2_1 K3_0 K3_1
  replace K2 := Lib.hid (K2.out.below hy2)
  replace K3 := Lib.hid (K3.out.below hy2)
  replace K4 := Lib.hid (K4.out.below hy2)
  replace HB := Lib.hid (HB.out.trans (hy2.mono HB.out.size))
  clear hy0 hy1 hy2 GX GY
  have K2_0 : y2.cell? ⟨w.heap.size, 0, none⟩ = some (.bool na) := K2.out.cell 0
  have K2_1 : y2.cell? ⟨w.heap.size, 1, none⟩ = some (.slice A n c) := K2.out.cell 1
  have K3_0 : y2.cell? ⟨w.heap.size + 1, 0, none⟩ = some (.bool nb) := K3.out.cell 0
  have K3_1 : y2.cell? ⟨w.heap.size + 1, 1, none⟩ = some (.slice A2 m c2) := K3.out.cell 1
  by_cases hab : na = nb
  · have hbb : (na == nb) = true := by simp [hab]
    have HAB := Lib.hid hab
    clear hab
    go_upto_region 3 with fail
    have hx0 : Below y2.heap.size y2 y2.drew := below_drew (Below.refl _ _)
    refine wp_region_mix 6 (fun w' => Below y2.heap.size y2 w') (by kernel_rfl) (by decide) ?_
    generalize y2.drew = x0 at hx0 ⊢
    refine wpM_take (i := 0) (oi := ⟨some 16, _, _, _, _, _⟩) (v := ?_) rfl (by decide +kernel) (by decide +kernel) (by decide +kernel) (fun _ _ _ h => h) (Or.inl ⟨by rfl, ?_⟩) hx0 ?_
    case refine_2 =>
      intro w' hSw
      have K2_0' := keepcell hSw K2_0
      have K2_1' := keepcell hSw K2_1
      have K3_0' := keepcell hSw K3_0
      have K3_1' := keepcell hSw K3_1
      go_simp
      try (with_reducible rfl)
    try simp only [Act.put, List.setIfInBounds_toArray, List.set_cons_zero, List.set_cons_succ]
    refine wpM_take (i := 1) (oi := ⟨some 17, _, _, _, _, _⟩) (v := ?_) rfl (by decide +kernel) (by decide +kernel) (by decide +kernel) (fun _ _ _ h => h) (Or.inl ⟨by rfl, ?_⟩) hx0 ?_
    case refine_2 =>
      intro w' hSw
      have K2_0' := keepcell hSw K2_0
      have K2_1' := keepcell hSw K2_1
      have K3_0' := keepcell hSw K3_0
      have K3_1' := keepcell hSw K3_1
      go_simp
      try (with_reducible rfl)
    try simp only [Act.put, List.setIfInBounds_toArray, List.set_cons_zero, List.set_cons_succ]
    refine wpM_take (i := 2) (oi := ⟨some 18, _, _, _, _, _⟩) (v := ?_) rfl (by decide +kernel) (by decide +kernel) (by decide +kernel) (fun _ _ _ h => h) (Or.inl ⟨by rfl, ?_⟩) hx0 ?_
    case refine_2 =>
      intro w' hSw
      have K2_0' := keepcell hSw K2_0
      have K2_1' := keepcell hSw K2_1
      have K3_0' := keepcell hSw K3_0
      have K3_1' := keepcell hSw K3_1
      go_simp
      try (with_reducible rfl)
    try simp only [Act.put, List.setIfInBounds_toArray, List.set_cons_zero, List.set_cons_succ]
    refine wpM_take (i := 3) (oi := ⟨some 19, _, _, _, _, _⟩) (v := ?_) rfl (by decide +kernel) (by decide +kernel) (by decide +kernel) (fun _ _ _ h => h) (Or.inl ⟨by rfl, ?_⟩) hx0 ?_
    case refine_2 =>
      intro w' hSw
      have K2_0' := keepcell hSw K2_0
      have K2_1' := keepcell hSw K2_1
      have K3_0' := keepcell hSw K3_0
      have K3_1' := keepcell hSw K3_1
      go_simp
      try (with_reducible rfl)
    try simp only [Act.put, List.setIfInBounds_toArray, List.set_cons_zero, List.set_cons_succ]
    refine wpM_step (i := 4) (o := ⟨some 20, _, _, _, _, _⟩) rfl (by decide +kernel) (by decide) (fun K hK => ?_)
    go_simp
    refine (plus_hv _ _ z1.natAbs z2.natAbs (2 * N) x0 (H1.out.below hx0) (H2.out.below hx0) (by omega)).mono ?_
    rintro e x1 ⟨v3, rfl, hv, hc⟩
    have hx1 : Below y2.heap.size y2 x1 := hx0.trans (hc.mono hx0.size)
    have H3 := Lib.hid hv
    clear hv
    clear hc
    refine hK.out _ _ hx1 ?_
    clear hK K
    try simp only [Act.put, List.setIfInBounds_toArray, List.set_cons_zero, List.set_cons_succ]
    refine wpM_step (i := 5) (o := ⟨some 21, _, _, _, _, _⟩) rfl (by decide +kernel) (by decide) (fun K hK => ?_)
    go_simp
    refine (big_hv na _ (z1.natAbs + z2.natAbs) (2 * N + 1) x1 (H3.out.mono (by omega)) (by omega)).mono ?_
    rintro e x2 ⟨v4, rfl, hv, hc⟩
    have hx2 : Below y2.heap.size y2 x2 := hx1.trans (hc.mono hx1.size)
    have HV := Lib.hid (hv.mono (show w.heap.size ≤ _ from Nat.le_trans HB.out.size hx1.size) (Nat.le_refl _))
    rw [show sgn na (z1.natAbs + z2.natAbs) = z from (by rw [sgn_add, sgn_self HZ1.out, HAB.out, sgn_self HZ2.out]; exact HZZ.out)] at HV
    clear hv
    clear hc
    refine hK.out _ _ hx2 ?_
    clear hK K
    try simp only [Act.put, List.setIfInBounds_toArray, List.set_cons_zero, List.set_cons_succ]
    refine wpM_done (by decide +kernel) ?_
    simp only [List.drop_succ_cons, List.drop_zero]
    clear K2_0 K2_1 K3_0 K3_1
    have HB9 := Lib.hid (HB.out.trans (hx2.mono HB.out.size))
    have K9 := Lib.hid (K4.out.below hx2)
    obtain ⟨Ar, nr, cr, Dr, hevr, hor, hsr, hnr, hvr, hNr⟩ := HV.out
    obtain ⟨sbr, hsbr⟩ : ∃ b, b = decide (z < 0) := ⟨_, rfl⟩
    rw [← hsbr] at hevr
    subst hevr
    have HSBr := Lib.hid hsbr
    clear hsbr
    go_wp2_with ((refine wpList_store_row (o := ⟨none, _, _, _, _, _⟩) rfl 37 _ _ rfl (w.heap.size + 1 + 1) #[.bool sbr, .slice Ar nr cr] rfl rfl 37 _ K9.out (by kernel_rfl) rfl (by simp [Value.oneCell']) ?_))
    refine bodyPost_ret (results_c1 rfl _ _ _ (w.heap.size + 1 + 1) _ rfl (load24 (K9.out.setRow (ds := #[.bool sbr, .slice Ar nr cr])) rfl)) rfl ?_
    exact ⟨_, rfl, NB.row ⟨Ar, nr, cr, Dr, by rw [HSBr.out], hor, hsr, hnr, hvr, hNr⟩ K9.out _, HB9.out.grown (grown_row x2 (w.heap.size + 1 + 1) _) HB9.out.size (fun j hj => by first | (injection hj with hj; omega) | omega | (cases hj; exact Nat.le_refl _))⟩
  · have hbb : (na == nb) = false := by simpa using hab
    have HAB := Lib.hid hab
    clear hab
    have CO := Lib.hid (order_hv v1 v2 z1.natAbs z2.natAbs (2 * N) y2 H1.out H2.out (by omega))
    go_wp2_with fail
    refine CO.out.mono ?_
    rintro e w5 ⟨rfl, hc⟩
    clear K2_0 K2_1 K3_0 K3_1
    replace K2 := Lib.hid (K2.out.below hc)
    replace K3 := Lib.hid (K3.out.below hc)
    replace K4 := Lib.hid (K4.out.below hc)
    replace H1 := Lib.hid (H1.out.below hc)
    replace H2 := Lib.hid (H2.out.below hc)
    replace HB := Lib.hid (HB.out.trans (hc.mono HB.out.size))
    clear hc CO
    have K2_0 : w5.cell? ⟨w.heap.size, 0, none⟩ = some (.bool na) := K2.out.cell 0
    have K2_1 : w5.cell? ⟨w.heap.size, 1, none⟩ = some (.slice A n c) := K2.out.cell 1
    have K3_0 : w5.cell? ⟨w.heap.size + 1, 0, none⟩ = some (.bool nb) := K3.out.cell 0
    have K3_1 : w5.cell? ⟨w.heap.size + 1, 1, none⟩ = some (.slice A2 m c2) := K3.out.cell 1
    obtain ⟨sc, hsc⟩ : ∃ q, scmp z1.natAbs z2.natAbs = q := ⟨_, rfl⟩
    by_cases hle : z2.natAbs ≤ z1.natAbs
    · have hge : sc ≥ 0 := by rw [← hsc]; unfold scmp; rw [if_neg (by omega)]; split <;> omega
      rw [hsc]
      have HLE := Lib.hid hle
      clear hsc hle
      go_upto_region 5 with fail
      have hx0 : Below w5.heap.size w5 w5.drew := below_drew (Below.refl _ _)
      refine wp_region_mix 6 (fun w' => Below w5.heap.size w5 w') (by kernel_rfl) (by decide) ?_
      generalize w5.drew = x0 at hx0 ⊢
      refine wpM_take (i := 0) (oi := ⟨some 26, _, _, _, _, _⟩) (v := ?_) rfl (by decide +kernel) (by decide +kernel) (by decide +kernel) (fun _ _ _ h => h) (Or.inl ⟨by rfl, ?_⟩) hx0 ?_
      case refine_2 =>
        intro w' hSw
        have K2_0' := keepcell hSw K2_0
        have K2_1' := keepcell hSw K2_1
        have K3_0' := keepcell hSw K3_0
        have K3_1' := keepcell hSw K3_1
        go_simp
        try (with_reducible rfl)
      try simp only [Act.put, List.setIfInBounds_toArray, List.set_cons_zero, List.set_cons_succ]
      refine wpM_take (i := 1) (oi := ⟨some 27, _, _, _, _, _⟩) (v := ?_) rfl (by decide +kernel) (by decide +kernel) (by decide +kernel) (fun _ _ _ h => h) (Or.inl ⟨by rfl, ?_⟩) hx0 ?_
      case refine_2 =>
        intro w' hSw
        have K2_0' := keepcell hSw K2_0
        have K2_1' := keepcell hSw K2_1
        have K3_0' := keepcell hSw K3_0
        have K3_1' := keepcell hSw K3_1
        go_simp
        try (with_reducible rfl)
      try simp only [Act.put, List.setIfInBounds_toArray, List.set_cons_zero, List.set_cons_succ]
      refine wpM_take (i := 2) (oi := ⟨some 28, _, _, _, _, _⟩) (v := ?_) rfl (by decide +kernel) (by decide +kernel) (by decide +kernel) (fun _ _ _ h => h) (Or.inl ⟨by rfl, ?_⟩) hx0 ?_
      case refine_2 =>
        intro w' hSw
        have K2_0' := keepcell hSw K2_0
        have K2_1' := keepcell hSw K2_1
        have K3_0' := keepcell hSw K3_0
        have K3_1' := keepcell hSw K3_1
        go_simp
        try (with_reducible rfl)
      try simp only [Act.put, List.setIfInBounds_toArray, List.set_cons_zero, List.set_cons_succ]
      refine wpM_take (i := 3) (oi := ⟨some 29, _, _, _, _, _⟩) (v := ?_) rfl (by decide +kernel) (by decide +kernel) (by decide +kernel) (fun _ _ _ h => h) (Or.inl ⟨by rfl, ?_⟩) hx0 ?_
      case refine_2 =>
        intro w' hSw
        have K2_0' := keepcell hSw K2_0
        have K2_1' := keepcell hSw K2_1
        have K3_0' := keepcell hSw K3_0
        have K3_1' := keepcell hSw K3_1
        go_simp
        try (with_reducible rfl)
      try simp only [Act.put, List.setIfInBounds_toArray, List.set_cons_zero, List.set_cons_succ]
      refine wpM_step (i := 4) (o := ⟨some 30, _, _, _, _, _⟩) rfl (by decide +kernel) (by decide) (fun K hK => ?_)
      go_simp
      refine (minus_hv _ _ z1.natAbs z2.natAbs (2 * N) x0 (H1.out.below hx0) (H2.out.below hx0) (by omega) HLE.out).mono ?_
      rintro e x1 ⟨v3, rfl, hv, hc⟩
      have hx1 : Below w5.heap.size w5 x1 := hx0.trans (hc.mono hx0.size)
      have H3 := Lib.hid hv
      clear hv
      clear hc
      refine hK.out _ _ hx1 ?_
      clear hK K
      try simp only [Act.put, List.setIfInBounds_toArray, List.set_cons_zero, List.set_cons_succ]
      refine wpM_step (i := 5) (o := ⟨some 31, _, _, _, _, _⟩) rfl (by decide +kernel) (by decide) (fun K hK => ?_)
      go_simp
      refine (big_hv na _ (z1.natAbs - z2.natAbs) (2 * N + 1) x1 (H3.out.mono (by omega)) (by omega)).mono ?_
      rintro e x2 ⟨v4, rfl, hv, hc⟩
      have hx2 : Below w5.heap.size w5 x2 := hx1.trans (hc.mono hx1.size)
      have HV := Lib.hid (hv.mono (show w.heap.size ≤ _ from Nat.le_trans HB.out.size hx1.size) (Nat.le_refl _))
      rw [show sgn na (z1.natAbs - z2.natAbs) = z from (by rw [sgn_sub na nb z1.natAbs z2.natAbs _ HAB.out (by have := HLE.out; omega), sgn_self HZ1.out, sgn_self HZ2.out]; exact HZZ.out)] at HV
      clear hv
      clear hc
      refine hK.out _ _ hx2 ?_
      clear hK K
      try simp only [Act.put, List.setIfInBounds_toArray, List.set_cons_zero, List.set_cons_succ]
      refine wpM_done (by decide +kernel) ?_
      simp only [List.drop_succ_cons, List.drop_zero]
      clear K2_0 K2_1 K3_0 K3_1
      have HB9 := Lib.hid (HB.out.trans (hx2.mono HB.out.size))
      have K9 := Lib.hid (K4.out.below hx2)
      obtain ⟨Ar, nr, cr, Dr, hevr, hor, hsr, hnr, hvr, hNr⟩ := HV.out
      obtain ⟨sbr, hsbr⟩ : ∃ b, b = decide (z < 0) := ⟨_, rfl⟩
      rw [← hsbr] at hevr
      subst hevr
      have HSBr := Lib.hid hsbr
      clear hsbr
      go_wp2_with ((refine wpList_store_row (o := ⟨none, _, _, _, _, _⟩) rfl 37 _ _ rfl (w.heap.size + 1 + 1) #[.bool sbr, .slice Ar nr cr] rfl rfl 37 _ K9.out (by kernel_rfl) rfl (by simp [Value.oneCell']) ?_))
      refine bodyPost_ret (results_c1 rfl _ _ _ (w.heap.size + 1 + 1) _ rfl (load24 (K9.out.setRow (ds := #[.bool sbr, .slice Ar nr cr])) rfl)) rfl ?_
      exact ⟨_, rfl, NB.row ⟨Ar, nr, cr, Dr, by rw [HSBr.out], hor, hsr, hnr, hvr, hNr⟩ K9.out _, HB9.out.grown (grown_row x2 (w.heap.size + 1 + 1) _) HB9.out.size (fun j hj => by first | (injection hj with hj; omega) | omega | (cases hj; exact Nat.le_refl _))⟩
    · have hge : ¬ sc ≥ 0 := by rw [← hsc]; unfold scmp; rw [if_pos (by omega)]; omega
      rw [hsc]
      have HLE := Lib.hid (show z1.natAbs ≤ z2.natAbs by omega)
      clear hsc hle
      go_upto_region 6 with fail
      have hx0 : Below w5.heap.size w5 w5.drew := below_drew (Below.refl _ _)
      refine wp_region_mix 6 (fun w' => Below w5.heap.size w5 w') (by kernel_rfl) (by decide) ?_
      generalize w5.drew = x0 at hx0 ⊢
      refine wpM_take (i := 0) (oi := ⟨some 32, _, _, _, _, _⟩) (v := ?_) rfl (by decide +kernel) (by decide +kernel) (by decide +kernel) (fun _ _ _ h => h) (Or.inl ⟨by rfl, ?_⟩) hx0 ?_
      case refine_2 =>
        intro w' hSw
        have K2_0' := keepcell hSw K2_0
        have K2_1' := keepcell hSw K2_1
        have K3_0' := keepcell hSw K3_0
        have K3_1' := keepcell hSw K3_1
        go_simp
        try (with_reducible rfl)
      try simp only [Act.put, List.setIfInBounds_toArray, List.set_cons_zero, List.set_cons_succ]
      refine wpM_take (i := 1) (oi := ⟨some 33, _, _, _, _, _⟩) (v := ?_) rfl (by decide +kernel) (by decide +kernel) (by decide +kernel) (fun _ _ _ h => h) (Or.inl ⟨by rfl, ?_⟩) hx0 ?_
      case refine_2 =>
        intro w' hSw
        have K2_0' := keepcell hSw K2_0
        have K2_1' := keepcell hSw K2_1
        have K3_0' := keepcell hSw K3_0
        have K3_1' := keepcell hSw K3_1
        go_simp
        try (with_reducible rfl)
      try simp only [Act.put, List.setIfInBounds_toArray, List.set_cons_zero, List.set_cons_succ]
      refine wpM_take (i := 2) (oi := ⟨some 34, _, _, _, _, _⟩) (v := ?_) rfl (by decide +kernel) (by decide +kernel) (by decide +kernel) (fun _ _ _ h => h) (Or.inl ⟨by rfl, ?_⟩) hx0 ?_
      case refine_2 =>
        intro w' hSw
        have K2_0' := keepcell hSw K2_0
        have K2_1' := keepcell hSw K2_1
        have K3_0' := keepcell hSw K3_0
        have K3_1' := keepcell hSw K3_1
        go_simp
        try (with_reducible rfl)
      try simp only [Act.put, List.setIfInBounds_toArray, List.set_cons_zero, List.set_cons_succ]
      refine wpM_take (i := 3) (oi := ⟨some 35, _, _, _, _, _⟩) (v := ?_) rfl (by decide +kernel) (by decide +kernel) (by decide +kernel) (fun _ _ _ h => h) (Or.inl ⟨by rfl, ?_⟩) hx0 ?_
      case refine_2 =>
        intro w' hSw
        have K2_0' := keepcell hSw K2_0
        have K2_1' := keepcell hSw K2_1
        have K3_0' := keepcell hSw K3_0
        have K3_1' := keepcell hSw K3_1
        go_simp
        try (with_reducible rfl)
      try simp only [Act.put, List.setIfInBounds_toArray, List.set_cons_zero, List.set_cons_succ]
      refine wpM_step (i := 4) (o := ⟨some 36, _, _, _, _, _⟩) rfl (by decide +kernel) (by decide) (fun K hK => ?_)
      go_simp
      refine (minus_hv _ _ z2.natAbs z1.natAbs (2 * N) x0 (H2.out.below hx0) (H1.out.below hx0) (by omega) HLE.out).mono ?_
      rintro e x1 ⟨v3, rfl, hv, hc⟩
      have hx1 : Below w5.heap.size w5 x1 := hx0.trans (hc.mono hx0.size)
      have H3 := Lib.hid hv
      clear hv
      clear hc
      refine hK.out _ _ hx1 ?_
      clear hK K
      try simp only [Act.put, List.setIfInBounds_toArray, List.set_cons_zero, List.set_cons_succ]
      refine wpM_step (i := 5) (o := ⟨some 37, _, _, _, _, _⟩) rfl (by decide +kernel) (by decide) (fun K hK => ?_)
      go_simp
      refine (big_hv nb _ (z2.natAbs - z1.natAbs) (2 * N + 1) x1 (H3.out.mono (by omega)) (by omega)).mono ?_
      rintro e x2 ⟨v4, rfl, hv, hc⟩
      have hx2 : Below w5.heap.size w5 x2 := hx1.trans (hc.mono hx1.size)
      have HV := Lib.hid (hv.mono (show w.heap.size ≤ _ from Nat.le_trans HB.out.size hx1.size) (Nat.le_refl _))
      rw [show sgn nb (z2.natAbs - z1.natAbs) = z from (by rw [sgn_sub nb na z2.natAbs z1.natAbs _ (fun e => HAB.out e.symm) (by have := HLE.out; omega), sgn_self HZ1.out, sgn_self HZ2.out, Int.add_comm]; exact HZZ.out)] at HV
      clear hv
      clear hc
      refine hK.out _ _ hx2 ?_
      clear hK K
      try simp only [Act.put, List.setIfInBounds_toArray, List.set_cons_zero, List.set_cons_succ]
      refine wpM_done (by decide +kernel) ?_
      simp only [List.drop_succ_cons, List.drop_zero]
      clear K2_0 K2_1 K3_0 K3_1
      have HB9 := Lib.hid (HB.out.trans (hx2.mono HB.out.size))
      have K9 := Lib.hid (K4.out.below hx2)
      obtain ⟨Ar, nr, cr, Dr, hevr, hor, hsr, hnr, hvr, hNr⟩ := HV.out
      obtain ⟨sbr, hsbr⟩ : ∃ b, b = decide (z < 0) := ⟨_, rfl⟩
      rw [← hsbr] at hevr
      subst hevr
      have HSBr := Lib.hid hsbr
      clear hsbr
      go_wp2_with ((refine wpList_store_row (o := ⟨none, _, _, _, _, _⟩) rfl 37 _ _ rfl (w.heap.size + 1 + 1) #[.bool sbr, .slice Ar nr cr] rfl rfl 37 _ K9.out (by kernel_rfl) rfl (by simp [Value.oneCell']) ?_))
      refine bodyPost_ret (results_c1 rfl _ _ _ (w.heap.size + 1 + 1) _ rfl (load24 (K9.out.setRow (ds := #[.bool sbr, .slice Ar nr cr])) rfl)) rfl ?_
      exact ⟨_, rfl, NB.row ⟨Ar, nr, cr, Dr, by rw [HSBr.out], hor, hsr, hnr, hvr, hNr⟩ K9.out _, HB9.out.grown (grown_row x2 (w.heap.size + 1 + 1) _) HB9.out.size (fun j hj => by first | (injection hj with hj; omega) | omega | (cases hj; exact Nat.le_refl _))⟩
theorem BG.wide {w : World} {v : Value} {z : Int} {N M : Nat} (h : BG w v z N) (hM : N ≤ M) : BG w v z M := by
  obtain ⟨neg, A, n, c, D, e, hd, hs, hn, hz⟩ := h
  exact ⟨neg, A, n, c, D, e, hd, hs, Nat.le_trans hn hM, hz⟩
set_option maxRecDepth 100000 in
set_option maxHeartbeats 4000000 in
theorem RSub_any (a b : Value) (z1 z2 : Int) (N : Nat) (w : World) (h : BG w a z1 N) (h2 : BG w b z2 N) (hN : N ≤ 10000) : Calls Try.prog 58 #[a, b] w fun e w' => ∃ v, e = .returned v ∧ NB w' w.heap.size v (z1 - z2) (4 * N + 4) ∧ Below w.heap.size w w' := by
  obtain ⟨z, hz⟩ : ∃ z, z1 - z2 = z := ⟨_, rfl⟩
  rw [hz]
  have HZZ := Lib.hid hz
  clear hz
  obtain ⟨na, A, n, c, D, rfl, hd1, hs1, hn1, hz1⟩ := h
  obtain ⟨nb, A2, m, c2, E, rfl, hd2, hs2, hn2, hz2⟩ := h2
  have HZ1 := Lib.hid hz1
  have HZ2 := Lib.hid hz2
  obtain ⟨W0, hW0⟩ : ∃ V, V = ((w.alloc (.cells #[.bool na, .slice A n c] 37)).alloc (.cells #[.bool nb, .slice A2 m c2] 37)).alloc (.cells #[.bool false, .slice none 0 0] 37) := ⟨_, rfl⟩
  have HB := Lib.hid (show Below w.heap.size w W0 by rw [hW0]; exact (((Below.refl _ w).alloc (Nat.le_refl _) _).alloc (by simp) _).alloc (by simp; omega) _)
  have K2 := Lib.hid (show Blk W0 w.heap.size 37 #[.bool na, .slice A n c] by rw [hW0]; exact ((Blk.new _ _ _).alloc _).alloc _)
  have K3 := Lib.hid (show Blk W0 (w.heap.size + 1) 37 #[.bool nb, .slice A2 m c2] by rw [hW0]; exact (Blk.new_ (by simp) rfl : Blk ((w.alloc _).alloc _) _ _ _).alloc _)
  have K4 := Lib.hid (show Blk W0 (w.heap.size + 1 + 1) 37 #[.bool false, .slice none 0 0] by rw [hW0]; exact Blk.new_ (by simp) rfl)
  have GX := Lib.hid (show BG W0 (.agg #[.bool na, .slice A n c]) z1 N from BG.below ⟨na, A, n, c, D, rfl, hd1, hs1, hn1, hz1⟩ HB.out)
  have GY := Lib.hid (show BG W0 (.agg #[.bool nb, .slice A2 m c2]) z2 N from BG.below ⟨nb, A2, m, c2, E, rfl, hd2, hs2, hn2, hz2⟩ HB.out)
  clear hd1 hs1 hn1 hz1 hd2 hs2 hn2 hz2
  have K2_0 : W0.cell? ⟨w.heap.size, 0, none⟩ = some (.bool na) := K2.out.cell 0
  have K2_1 : W0.cell? ⟨w.heap.size, 1, none⟩ = some (.slice A n c) := K2.out.cell 1
  have K3_0 : W0.cell? ⟨w.heap.size + 1, 0, none⟩ = some (.bool nb) := K3.out.cell 0
  have K3_1 : W0.cell? ⟨w.heap.size + 1, 1, none⟩ = some (.slice A2 m c2) := K3.out.cell 1
  go_enter Try.func58, Try.ntmps58
  go_upto_region 1 with fail
  rw [← hW0]
  clear hW0
  have hy0 : Below W0.heap.size W0 W0.drew := below_drew (Below.refl _ _)
  refine wp_region_mix 4 (fun w' => Below W0.heap.size W0 w') (by kernel_rfl) (by decide) ?_
  generalize W0.drew = y0 at hy0 ⊢
  refine wpM_take (i := 0) (oi := ⟨some 5, _, _, _, _, _⟩) (v := ?_) rfl (by decide +kernel) (by decide +kernel) (by decide +kernel) (fun _ _ _ h => h) (Or.inl ⟨by rfl, ?_⟩) hy0 ?_
  case refine_2 =>
    intro w' hSw
    have K2_0' := keepcell hSw K2_0
    have K2_1' := keepcell hSw K2_1
    have K3_0' := keepcell hSw K3_0
    have K3_1' := keepcell hSw K3_1
    go_simp
    try (with_reducible rfl)
  try simp only [Act.put, List.setIfInBounds_toArray, List.set_cons_zero, List.set_cons_succ]
  refine wpM_take (i := 1) (oi := ⟨some 6, _, _, _, _, _⟩) (v := ?_) rfl (by decide +kernel) (by decide +kernel) (by decide +kernel) (fun _ _ _ h => h) (Or.inl ⟨by rfl, ?_⟩) hy0 ?_
  case refine_2 =>
    intro w' hSw
    have K2_0' := keepcell hSw K2_0
    have K2_1' := keepcell hSw K2_1
    have K3_0' := keepcell hSw K3_0
    have K3_1' := keepcell hSw K3_1
    go_simp
    try (with_reducible rfl)
  try simp only [Act.put, List.setIfInBounds_toArray, List.set_cons_zero, List.set_cons_succ]
  refine wpM_step (i := 2) (o := ⟨some 7, _, _, _, _, _⟩) rfl (by decide +kernel) (by decide) (fun K hK => ?_)
  go_simp
  refine (RNeg_any _ z2 N y0 (GY.out.below hy0) (by omega)).mono ?_
  rintro e y1 ⟨v1, rfl, hv, hc⟩
  have hy1 : Below W0.heap.size W0 y1 := hy0.trans (hc.mono hy0.size)
  have H1 := Lib.hid hv
  clear hv
  clear hc
  refine hK.out _ _ hy1 ?_
  clear hK K
  try simp only [Act.put, List.setIfInBounds_toArray, List.set_cons_zero, List.set_cons_succ]
  refine wpM_step (i := 3) (o := ⟨some 8, _, _, _, _, _⟩) rfl (by decide +kernel) (by decide) (fun K hK => ?_)
  go_simp
  refine (RAdd_any _ _ z1 (-z2) (2 * N + 1) y1 (show BG _ _ _ _ from (GX.out.below hy1).wide (by omega)) H1.out.bg (by omega)).mono ?_
  rintro e y2 ⟨v2, rfl, hv, hc⟩
  have hy2 : Below W0.heap.size W0 y2 := hy1.trans (hc.mono hy1.size)
  have HV := Lib.hid (hv.mono (show w.heap.size ≤ _ from Nat.le_trans HB.out.size hy1.size) (show _ ≤ 4 * N + 4 by omega))
  rw [show z1 + -z2 = z from by rw [← HZZ.out]; omega] at HV
  clear hv
  clear hc
  refine hK.out _ _ hy2 ?_
  clear hK K
  try simp only [Act.put, List.setIfInBounds_toArray, List.set_cons_zero, List.set_cons_succ]
  refine wpM_done (by decide +kernel) ?_
  simp only [List.drop_succ_cons, List.drop_zero]
  clear K2_0 K2_1 K3_0 K3_1
  have HB9 := Lib.hid (HB.out.trans (hy2.mono HB.out.size))
  have K9 := Lib.hid (K4.out.below hy2)
  obtain ⟨Ar, nr, cr, Dr, hevr, hor, hsr, hnr, hvr, hNr⟩ := HV.out
  obtain ⟨sbr, hsbr⟩ : ∃ b, b = decide (z < 0) := ⟨_, rfl⟩
  rw [← hsbr] at hevr
  subst hevr
  have HSBr := Lib.hid hsbr
  clear hsbr
  go_wp2_with ((refine wpList_store_row (o := ⟨none, _, _, _, _, _⟩) rfl 37 _ _ rfl (w.heap.size + 1 + 1) #[.bool sbr, .slice Ar nr cr] rfl rfl 37 _ K9.out (by kernel_rfl) rfl (by simp [Value.oneCell']) ?_))
  refine bodyPost_ret (results_c1 rfl _ _ _ (w.heap.size + 1 + 1) _ rfl (load24 (K9.out.setRow (ds := #[.bool sbr, .slice Ar nr cr])) rfl)) rfl ?_
  exact ⟨_, rfl, NB.row ⟨Ar, nr, cr, Dr, by rw [HSBr.out], hor, hsr, hnr, hvr, hNr⟩ K9.out _, HB9.out.grown (grown_row y2 (w.heap.size + 1 + 1) _) HB9.out.size (fun j hj => by first | (injection hj with hj; omega) | omega | (cases hj; exact Nat.le_refl _))⟩
end Go.Proofs.Ythfolccofjaknaa
