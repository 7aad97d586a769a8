/- The product of a list of 16-bit digits and a digit. -/
import Derived.Test.YthfolccofjaknaaBrz
namespace Go.Proofs.Ythfolccofjaknaa
open Go.ChangeShapes Go.WideShapes Go.ChangeAt Go.RowKit Go.ChangeMaps

set_option maxRecDepth 100000 in
set_option maxHeartbeats 4000000 in
theorem times_any (A : Option Addr) (n c : Nat) (L : List Nat) (dd : Nat) (w : World) (h : HG w A n L) (hn : n ≤ 100000) (hd : dd < 65536) : Calls Try.prog 69 #[.slice A n c, .int .i64 (dd : Int)] w fun e w' => ∃ v, e = .returned v ∧ HV w' v (dv 65536 L * dd) (n + 1) ∧ Below w.heap.size w w' := by
  obtain ⟨i0, hi, hz0, hz1, hz2⟩ := info_parts (show (Try.prog.info? 3).map (fun i => (i.zero, i.size, i.bytes)) = some (some (.int .i64 0), 1, 8) by kernel_rfl)
  have HA := Lib.hid h.at
  have HL := Lib.hid h.1
  have HKL := Lib.hid h.2.1
  have hdI : (dd : Int) ≤ 65535 := by omega
  clear h
  obtain ⟨B0, hw0⟩ : ∃ V, V = w.heap.size := ⟨_, rfl⟩
  obtain ⟨W1, hW1⟩ : ∃ V, V = w.alloc (.cells #[] 3) := ⟨_, rfl⟩
  have HO1 := Lib.hid (show W1.ownsRow B0 3 1 (.slice (some ⟨w.heap.size, 0, none⟩) 0 0) 0 (hcl []) by rw [hW1, hw0]; exact own_new (Nat.le_refl _))
  have HB1 := Lib.hid (show Below B0 w W1 by rw [hW1, hw0]; exact (Below.refl _ w).alloc (Nat.le_refl _) _)
  have SZ1 := Lib.hid (show B0 ≤ W1.heap.size by rw [hW1, hw0]; simp)
  have HW0 := Lib.hid hw0
  clear hw0
  go_enter Try.func69, Try.ntmps69
  go_wp2
  rw [← hW1]
  clear hW1
  go_loopw [5, 6, 7] (fun s5 s6 s7 wr => ∃ (i k : Nat) (R : List Nat) (A5 : Option Addr) (c5 : Nat), s5 = .slice A5 i c5 ∧ s6 = .int .i64 (k : Int) ∧ s7 = .int .i64 (i : Int) ∧ i ≤ n + 1 ∧ k ≤ 65535 ∧ (n < i → k = 0) ∧ R.length = i ∧ dok 65536 R ∧ dv 65536 R + 65536 ^ i * k = dv 65536 (L.take i) * dd ∧ wr.ownsRow B0 3 1 (.slice A5 i c5) i (hcl R) ∧ Below B0 w wr ∧ B0 ≤ wr.heap.size) (fun _ _ s7 _ => n + 2 - (intOf s7).toNat)
  case atStart => exact ⟨0, 0, [], _, _, rfl, rfl, rfl, by omega, by omega, by omega, rfl, dok_nil _, by simp [dv], HO1.out, HB1.out, SZ1.out⟩
  case round =>
    obtain ⟨i, k, R, A5, c5, rfl, rfl, rfl, hi1, hk, hk0, hRl, hRd, hinv, ho, hb, hsz⟩ := hrel
    have HI := Lib.hid hinv
    have HR := Lib.hid hRd
    have HRL := Lib.hid hRl
    have HOW := Lib.hid ho
    have HBW := Lib.hid hb
    have SZ := Lib.hid hsz
    have HK0 := Lib.hid hk0
    have HBw := Lib.hid (show Below w.heap.size w wr by have h := HBW.out; rw [HW0.out] at h; exact h)
    clear hinv hRd hRl ho hb hk0 HO1 HB1 hsz
    obtain ⟨d, hdl⟩ : ∃ d, L.getD i 0 = d := ⟨_, rfl⟩
    have hdB : d < 65536 := by rw [← hdl]; exact getD_lt (by decide) HKL.out i
    have HDL := Lib.hid hdl
    have hkI : (k : Int) ≤ 65535 := by omega
    clear hdl
    rcases Nat.lt_or_ge i n with h1 | h1
    · have h1I : (i : Int) < (n : Int) := by omega
      obtain ⟨b, off, rfl, hbl, hcell⟩ := HA.out (by omega)
      have c0 := hcell wr HBw.out i d (by have := HDL.out; rw [← this, List.getD_eq_getElem?_getD, List.getElem?_eq_getElem (by rw [HL.out]; exact h1)]; rfl)
      clear hcell
      obtain ⟨p, hp⟩ : ∃ p, p = d * dd := ⟨_, rfl⟩
      have hpb : p ≤ 4294836225 := by
        rw [hp]
        exact Nat.le_trans (Nat.mul_le_mul (by omega : d ≤ 65535) (by omega : dd ≤ 65535)) (by decide)
      have hpI : (d : Int) * (dd : Int) = (p : Int) := by rw [hp]; simp
      have hpbI : (p : Int) ≤ 4294836225 := by omega
      obtain ⟨t, ht⟩ : ∃ t, t = k + p := ⟨_, rfl⟩
      have htI : (k : Int) + (p : Int) = (t : Int) := by omega
      have htB : t ≤ 4294901760 := by omega
      have htBI : (t : Int) ≤ 4294901760 := by omega
      have hcm : (((t : Nat) : Int) % 65536) = (((t % 65536 : Nat)) : Int) := by omega
      have hcmt : (((t : Nat) : Int).tmod 65536) = (((t % 65536 : Nat)) : Int) := by rw [Int.tmod_eq_emod_of_nonneg (by omega)]; omega
      have hct : (((t : Nat) : Int).tdiv 65536) = (((t / 65536 : Nat)) : Int) := by rw [Int.tdiv_eq_ediv_of_nonneg (by omega)]; omega
      obtain ⟨lo, hlo⟩ : ∃ lo, t % 65536 = lo := ⟨_, rfl⟩
      obtain ⟨hi', hhi⟩ : ∃ hi', t / 65536 = hi' := ⟨_, rfl⟩
      rw [hlo] at hcm hcmt
      rw [hhi] at hct
      have hlo1 : lo < 65536 := by omega
      have hhi1 : hi' ≤ 65535 := by omega
      have hhi0 : t < 65536 → hi' = 0 := by omega
      have HST := Lib.hid (show dv 65536 (R ++ [lo]) + 65536 ^ (i + 1) * hi' = dv 65536 (L.take (i + 1)) * dd from by
        rw [← hlo, ← hhi]
        have h1 := snoc_carry R i k (d * dd) t _ HRL.out (by rw [ht, hp]) HI.out
        rw [h1, dv_take_getD, HDL.out, Nat.add_mul, Nat.mul_assoc])
      have HDK := Lib.hid (show dok 65536 (R ++ [lo]) from dok_app.2 ⟨HR.out, fun x hx => by obtain rfl : x = lo := (by simpa using hx); omega⟩)
      have HRL2 := Lib.hid (show (R ++ [lo]).length = i + 1 by rw [List.length_append, HRL.out]; rfl)
      have HZ0 := Lib.hid hhi0
      have HH1 := Lib.hid hhi1
      have hhiI : (hi' : Int) ≤ 65535 := by omega
      clear hlo hhi hhi0 hlo1 hhi1 ht hp htB
      obtain ⟨W3, hW3⟩ : ∃ V, V = wr.alloc (.cells #[.int .i64 ((lo : Nat) : Int)] 3) := ⟨_, rfl⟩
      have HO3 := Lib.hid (show W3.ownsRow B0 3 1 (.slice A5 i c5) i (hcl R) by rw [hW3]; exact HOW.out.alloc _)
      have HB3 := Lib.hid (show Below B0 _ W3 by rw [hW3]; exact HBW.out.alloc SZ.out _)
      have SZ3 := Lib.hid (show B0 ≤ W3.heap.size by rw [hW3]; have := SZ.out; simp; omega)
      have HN3 : Hid (Src Try.prog 1 88 (.slice (some ⟨wr.heap.size, 0, none⟩) 1 1) 1 [.int .i64 ((lo : Nat) : Int)] W3) := Lib.hid (src_blk (c := 1) Try.underlying88 rfl (by intro u hu; simp at hu; rcases hu with rfl | rfl <;> rfl) (show Blk W3 wr.heap.size 3 (List.toArray [.int .i64 ((lo : Nat) : Int)]) by rw [hW3]; exact Blk.new _ _ _))
      subst hW3
      go_wp2_with (at_builtin; go_loud (refine wpList_append_src _ rfl _ _ 88 88 rfl B0 3 i0 _ 1 8 Try.underlying88 hi hz0 hz1 hz2 rfl (.slice A5 i c5) i _ rfl HO3.out _ 1 _ rfl HN3.out ?c1 ?c2 SZ3.out ?_))
      case c1 => unfold maxLen; omega
      case c2 => omega
      intro v' w6 own' hg _
      have HOF := Lib.hid (show w6.ownsRow B0 3 1 v' (i + 1) (hcl (R ++ [lo])) by
        rw [show hcl (R ++ [lo]) = hcl R ++ [.int .i64 ((lo : Nat) : Int)] by simp [hcl]]
        exact own')
      have HBF := Lib.hid (show Below B0 _ w6 from HB3.out.grown hg SZ3.out (fun j hj => (HO3.out.lt j hj).1))
      obtain ⟨A6, a6, rfl, -⟩ := At.of_own own'
      have SZ6 := Lib.hid (Nat.le_trans SZ3.out hg.size)
      clear own' hg HO3 HB3 HN3 SZ3
      go_wp2
      go_roundw
      case rel => exact ⟨i + 1, hi', R ++ [lo], A6, a6, rfl, rfl, by go_num, by omega, HH1.out, (fun h => by omega), HRL2.out, HDK.out, HST.out, HOF.out, HBF.out, SZ6.out⟩
      case measure => simp only [intOf]; omega
    · have h1I : ¬ (i : Int) < (n : Int) := by omega
      obtain rfl : d = 0 := by rw [← HDL.out]; simp [List.getD, List.getElem?_eq_none_iff.2 (show L.length ≤ i by rw [HL.out]; exact h1)]
      rcases Nat.eq_zero_or_pos k with h3 | h3
      · subst h3
        have h3I : ¬ (0 : Int) < ((0 : Nat) : Int) := by omega
        have HX := Lib.hid (show dv 65536 R = dv 65536 L * dd from by
          have h4 := HI.out
          rw [List.take_of_length_le (by rw [HL.out]; exact h1)] at h4
          omega)
        obtain ⟨A6, c6, e6, hg6, hs6⟩ := own_hg HOW.out HR.out
        injection e6 with eA _ ec
        subst eA
        subst ec
        have CT := Lib.hid (rtrim_any A5 i c5 R wr hg6 hs6)
        rw [HX.out] at CT
        clear hg6 hs6
        go_wp2_with fail
        refine CT.out.mono ?_
        rintro e w7 ⟨⟨v, rfl, hv⟩, hy⟩
        replace hy := hy.symm
        subst hy
        have HV7 := Lib.hid (hv.mono hi1)
        clear hv CT
        go_wp2
        go_ret
        exact ⟨_, rfl, HV7.out, HBw.out⟩
      · have h3I : (0 : Int) < (k : Int) := by omega
        have him : i ≤ n := by
          rcases Nat.lt_or_ge n i with h5 | h5
          · have := HK0.out h5; omega
          · exact h5
        have hk6 : k < 65536 := by omega
        have htB : k ≤ 4294901760 := by omega
        have htBI : (k : Int) ≤ 4294901760 := by omega
        have hcm : (((k : Nat) : Int) % 65536) = (((k % 65536 : Nat)) : Int) := by omega
        have hcmt : (((k : Nat) : Int).tmod 65536) = (((k % 65536 : Nat)) : Int) := by rw [Int.tmod_eq_emod_of_nonneg (by omega)]; omega
        have hct : (((k : Nat) : Int).tdiv 65536) = (((k / 65536 : Nat)) : Int) := by rw [Int.tdiv_eq_ediv_of_nonneg (by omega)]; omega
        obtain ⟨lo, hlo⟩ : ∃ lo, k % 65536 = lo := ⟨_, rfl⟩
        obtain ⟨hi', hhi⟩ : ∃ hi', k / 65536 = hi' := ⟨_, rfl⟩
        rw [hlo] at hcm hcmt
        rw [hhi] at hct
        have hlo1 : lo < 65536 := by omega
        have hhi1 : hi' ≤ 65535 := by omega
        have hhi0 : k < 65536 → hi' = 0 := by omega
        have HST := Lib.hid (show dv 65536 (R ++ [lo]) + 65536 ^ (i + 1) * hi' = dv 65536 (L.take (i + 1)) * dd from by
          rw [← hlo, ← hhi]
          have h1 := snoc_carry R i k (0 * dd) k _ HRL.out (by simp) HI.out
          rw [h1, dv_take_getD, HDL.out, Nat.add_mul, Nat.mul_assoc])
        have HDK := Lib.hid (show dok 65536 (R ++ [lo]) from dok_app.2 ⟨HR.out, fun x hx => by obtain rfl : x = lo := (by simpa using hx); omega⟩)
        have HRL2 := Lib.hid (show (R ++ [lo]).length = i + 1 by rw [List.length_append, HRL.out]; rfl)
        have HZ0 := Lib.hid hhi0
        have HH1 := Lib.hid hhi1
        have hhiI : (hi' : Int) ≤ 65535 := by omega
        clear hlo hhi hhi0 hlo1 hhi1 htB hk6
        obtain ⟨W3, hW3⟩ : ∃ V, V = wr.alloc (.cells #[.int .i64 ((lo : Nat) : Int)] 3) := ⟨_, rfl⟩
        have HO3 := Lib.hid (show W3.ownsRow B0 3 1 (.slice A5 i c5) i (hcl R) by rw [hW3]; exact HOW.out.alloc _)
        have HB3 := Lib.hid (show Below B0 _ W3 by rw [hW3]; exact HBW.out.alloc SZ.out _)
        have SZ3 := Lib.hid (show B0 ≤ W3.heap.size by rw [hW3]; have := SZ.out; simp; omega)
        have HN3 : Hid (Src Try.prog 1 88 (.slice (some ⟨wr.heap.size, 0, none⟩) 1 1) 1 [.int .i64 ((lo : Nat) : Int)] W3) := Lib.hid (src_blk (c := 1) Try.underlying88 rfl (by intro u hu; simp at hu; rcases hu with rfl | rfl <;> rfl) (show Blk W3 wr.heap.size 3 (List.toArray [.int .i64 ((lo : Nat) : Int)]) by rw [hW3]; exact Blk.new _ _ _))
        subst hW3
        go_wp2_with (at_builtin; go_loud (refine wpList_append_src _ rfl _ _ 88 88 rfl B0 3 i0 _ 1 8 Try.underlying88 hi hz0 hz1 hz2 rfl (.slice A5 i c5) i _ rfl HO3.out _ 1 _ rfl HN3.out ?c1 ?c2 SZ3.out ?_))
        case c1 => unfold maxLen; omega
        case c2 => omega
        intro v' w6 own' hg _
        have HOF := Lib.hid (show w6.ownsRow B0 3 1 v' (i + 1) (hcl (R ++ [lo])) by
          rw [show hcl (R ++ [lo]) = hcl R ++ [.int .i64 ((lo : Nat) : Int)] by simp [hcl]]
          exact own')
        have HBF := Lib.hid (show Below B0 _ w6 from HB3.out.grown hg SZ3.out (fun j hj => (HO3.out.lt j hj).1))
        obtain ⟨A6, a6, rfl, -⟩ := At.of_own own'
        have SZ6 := Lib.hid (Nat.le_trans SZ3.out hg.size)
        clear own' hg HO3 HB3 HN3 SZ3
        go_wp2
        go_roundw
        case rel => exact ⟨i + 1, hi', R ++ [lo], A6, a6, rfl, rfl, by go_num, by omega, HH1.out, (fun _ => HZ0.out (by omega)), HRL2.out, HDK.out, HST.out, HOF.out, HBF.out, SZ6.out⟩
        case measure => simp only [intOf]; omega
theorem times_hv (v : Value) (x N dd : Nat) (w : World) (h : HV w v x N) (hN : N ≤ 90000) (hd : dd < 65536) : Calls Try.prog 69 #[v, .int .i64 (dd : Int)] w fun e w' => ∃ v', e = .returned v' ∧ HV w' v' (x * dd) (N + 1) ∧ Below w.heap.size w w' := by
  obtain ⟨A, n, c, L, rfl, hg, hs, hn, hv, hnN⟩ := h
  refine (times_any A n c L dd w hg (by omega) hd).mono ?_
  rintro e w' ⟨v', rfl, h1, hb⟩
  rw [hv] at h1
  exact ⟨v', rfl, h1.mono (by omega), hb⟩
end Go.Proofs.Ythfolccofjaknaa
