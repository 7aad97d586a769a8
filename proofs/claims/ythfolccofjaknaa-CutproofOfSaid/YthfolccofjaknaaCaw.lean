/- The examples of the chapter. -/
import Derived.Test.YthfolccofjaknaaCsu
namespace Go.Proofs.Ythfolccofjaknaa
open Go.ChangeShapes Go.WideShapes Go.ChangeAt Go.RowKit Go.ChangeMaps

theorem blk_at {W : World} {g : Nat} {T : TypeId} {n sz : Nat} {xs : List Value} {cs : Array Value} (hb : Blk W g T cs) (hc : cs = xs.toArray) (hl : xs.length = n * sz) : At W (some ⟨g, 0, none⟩) n sz xs := by
  subst hc
  exact ⟨hl, fun _ => ⟨g, 0, rfl, hb.lt, fun j u hu => by rw [Nat.zero_add, hb.cell]; simpa using hu⟩⟩
theorem Iq.ok.width {W : World} {N : Nat} {q : Iq} (h : q.ok W N) : q.n = q.m.1.length := by
  show q.n = (q.L.map Bg.z).length
  rw [List.length_map, h.1.len]
theorem ckl {W : World} {A : Option Addr} {c : Nat} {Q : List Iq} {p : Pf} {m : List QI} {P : PT} {r : Bool} (hQ : Ineqs W A 2 Q 2) (hp : p.ok W 2) (hQm : Q.map Iq.m = m) (hpm : p.m = P) (hn : m.all (fun q => decide (q.1.length = 1)) = true) (hs : sizeP P ≤ 10) (hr : (sysM m && chk P m) = r) : Calls Try.prog 23 #[.slice A 2 c, p.val] W (Ck W r) := by
  have h := Check_any W A 2 c Q 2 2 p hQ hp (fun q hq => ?_) (Nat.le_refl _) (by rw [hpm]; omega) (by rw [hpm]; omega)
  · rw [hQm, hpm, hr] at h
    exact h
  · have h1 := List.all_eq_true.1 hn q.m (by rw [← hQm]; exact List.mem_map_of_mem hq)
    rw [(hQ.2.2 q hq).width]
    simp only [decide_eq_true_eq] at h1
    omega
theorem szl {p : Pf} {W : World} {P : PT} {k : Nat} (hp : p.ok W 2) (hpm : p.m = P) (hs : sizeP P = k) (hk : k ≤ 10) : Calls Try.prog 30 #[p.val] W fun e w' => e = .returned (.int .i64 (k : Int)) ∧ Below W.heap.size W w' := by
  have h := Size_any p W 2 hp (by rw [hpm]; omega)
  rw [hpm, hs] at h
  exact h
theorem ineqs2 {W : World} {g : Nat} {q r : Iq} (hq : q.ok W 2) (hr : r.ok W 2) (hb : Blk W g 44 #[.slice q.A q.n q.c, .bool q.b.neg, .slice q.b.A q.b.n q.b.c, .slice r.A r.n r.c, .bool r.b.neg, .slice r.b.A r.b.n r.b.c]) : Ineqs W (some ⟨g, 0, none⟩) 2 [q, r] 2 :=
  ⟨blk_at hb rfl rfl, by decide, fun x hx => by
    simp only [List.mem_cons, List.not_mem_nil, or_false] at hx
    rcases hx with rfl | rfl
    · exact hq
    · exact hr⟩
theorem uses1 {W : World} {g : Nat} {u : Us} (hu : u.b.ok W 2) (hb : Blk W g 62 #[.int .i64 u.i, .bool u.b.neg, .slice u.b.A u.b.n u.b.c]) : Uses W (some ⟨g, 0, none⟩) 1 [u] 2 :=
  ⟨blk_at hb rfl rfl, by decide, fun x hx => by
    simp only [List.mem_cons, List.not_mem_nil, or_false] at hx
    rw [hx]; exact hu⟩
theorem uses2 {W : World} {g : Nat} {u v : Us} (hu : u.b.ok W 2) (hv : v.b.ok W 2) (hb : Blk W g 62 #[.int .i64 u.i, .bool u.b.neg, .slice u.b.A u.b.n u.b.c, .int .i64 v.i, .bool v.b.neg, .slice v.b.A v.b.n v.b.c]) : Uses W (some ⟨g, 0, none⟩) 2 [u, v] 2 :=
  ⟨blk_at hb rfl rfl, by decide, fun x hx => by
    simp only [List.mem_cons, List.not_mem_nil, or_false] at hx
    rcases hx with rfl | rfl
    · exact hu
    · exact hv⟩
theorem pf3 {W : World} {g : Nat} {s t u : Sp} (hs : s.ok W 2) (ht : t.ok W 2) (hu : u.ok W 2) (ns : s.n < 10) (nt : t.n < 10) (nu : u.n < 10) (hb : Blk W g 39 #[.slice s.A s.n s.c, .bool s.d.neg, .slice s.d.A s.d.n s.d.c, .slice t.A t.n t.c, .bool t.d.neg, .slice t.d.A t.d.n t.d.c, .slice u.A u.n u.c, .bool u.d.neg, .slice u.d.A u.d.n u.d.c]) :
    (Pf.mk (some ⟨g, 0, none⟩) 3 3 [s, t, u] none 0 0 [] Bg.zero none 0 0 []).ok W 2 :=
  .mk (blk_at hb rfl rfl) (fun x hx => by
      simp only [List.mem_cons, List.not_mem_nil, or_false] at hx
      rcases hx with rfl | rfl | rfl
      · exact hs
      · exact ht
      · exact hu) ⟨⟨rfl, fun h => absurd h (Nat.lt_irrefl _)⟩, by decide, fun b hb => by cases hb⟩ ((NB.zero W 0).bg.mono (Nat.zero_le _)) ⟨rfl, fun h => absurd h (Nat.lt_irrefl _)⟩
    ⟨by decide, by decide, by decide, fun x hx => by
      simp only [List.mem_cons, List.not_mem_nil, or_false] at hx
      rcases hx with rfl | rfl | rfl <;> omega⟩ (fun k hk => by cases hk)
theorem pf2 {W : World} {g f : Nat} {a b : Bg} {p q : Pf} (ha : a.ok W 2) (hb : b.ok W 2) (hp : p.ok W 2) (hq : q.ok W 2) (hf : Blk W f 37 #[.bool a.neg, .slice a.A a.n a.c]) (hk : Blk W g 52 (p.cells ++ q.cells).toArray) :
    (Pf.mk none 0 0 [] (some ⟨f, 0, none⟩) 1 1 [a] b (some ⟨g, 0, none⟩) 2 2 [p, q]).ok W 2 :=
  .mk ⟨rfl, fun h => absurd h (Nat.lt_irrefl _)⟩ (fun x hx => by cases hx) ⟨blk_at hf rfl rfl, by decide, fun x hx => by rw [List.mem_singleton.1 hx]; exact ha⟩ hb
    (blk_at (xs := [p, q].flatMap Pf.cells) hk (by simp) (by simp [Pf.cells_len])) ⟨by decide, by decide, by decide, fun x hx => by cases hx⟩ (fun x hx => by
      simp only [List.mem_cons, List.not_mem_nil, or_false] at hx
      rcases hx with rfl | rfl
      · exact hp
      · exact hq)
theorem sz0 (a b : Int × Int) : sizeP (sum2 a b) = 1 := by unfold sum2; rw [sizeP_eq]; simp
theorem sy1 : (sysM two1 && chk (sum2 (0, 1) (1, 1)) two1) = true := by rw [chk1]; decide
theorem sy2 : (sysM two2 && chk (sum2 (0, 1) (1, 1)) two2) = false := by rw [chk2]; decide
theorem sy3 : (sysM two2 && chk pP two2) = true := by rw [chk3]; decide
theorem sy4 : (sysM two3 && chk pQ two3) = true := by rw [chk4]; decide
theorem sy5 : (sysM two2 && chk pQ two2) = false := by rw [chk5]; decide
set_option maxRecDepth 100000 in
set_option maxHeartbeats 4000000 in
theorem awake_any (w : World) : Calls Try.prog 11 #[] w fun e w' => e = .returned (.bool true) ∧ Below w.heap.size w w' := by
  have HB := Lib.hid (Below.refl w.heap.size w)
  go_enter Try.func11, Try.ntmps11
  go_wp2_with fail
  refine (inequality_any (1) (2) w (by decide) (by decide) (by decide) (by decide)).mono ?_
  rintro e w1 ⟨⟨A10, n10, c10, L10, ⟨s10, B10, m10, d10, z10⟩⟩, rfl, hm, ho, hb⟩
  replace HB := Lib.hid (HB.out.trans (hb.mono HB.out.size))
  have Q10 := Lib.hid ho
  have QM10 := Lib.hid hm
  clear ho hm
  unfold Iq.val
  dsimp only
  clear hb
  go_wp2_with fail
  refine (inequality_any (-1) (-5) w1 (by decide) (by decide) (by decide) (by decide)).mono ?_
  rintro e w2 ⟨⟨A11, n11, c11, L11, ⟨s11, B11, m11, d11, z11⟩⟩, rfl, hm, ho, hb⟩
  replace HB := Lib.hid (HB.out.trans (hb.mono HB.out.size))
  replace Q10 := Lib.hid (Q10.out.below hb)
  have Q11 := Lib.hid ho
  have QM11 := Lib.hid hm
  clear ho hm
  unfold Iq.val
  dsimp only
  clear hb
  obtain ⟨g3, hg3⟩ : ∃ g, g = w2.heap.size := ⟨_, rfl⟩
  obtain ⟨w3, hw3⟩ : ∃ W, W = w2.alloc (.cells #[.slice A10 n10 c10, .bool s10, .slice B10 m10 d10, .slice A11 n11 c11, .bool s11, .slice B11 m11 d11] 44) := ⟨_, rfl⟩
  have hb : Below w2.heap.size w2 w3 := by rw [hw3]; exact (Below.refl _ _).alloc (Nat.le_refl _) _
  replace HB := Lib.hid (HB.out.trans (hb.mono HB.out.size))
  replace Q10 := Lib.hid (Q10.out.below hb)
  replace Q11 := Lib.hid (Q11.out.below hb)
  have K3 := Lib.hid (show Blk w3 g3 44 #[.slice A10 n10 c10, .bool s10, .slice B10 m10 d10, .slice A11 n11 c11, .bool s11, .slice B11 m11 d11] by rw [hw3]; exact Blk.new_ hg3 rfl)
  clear hb
  have I0 := Lib.hid (ineqs2 Q10.out Q11.out K3.out)
  have IM0 := Lib.hid (show [(⟨A10, n10, c10, L10, ⟨s10, B10, m10, d10, z10⟩⟩ : Iq), ⟨A11, n11, c11, L11, ⟨s11, B11, m11, d11, z11⟩⟩].map Iq.m = two1 by rw [List.map_cons, List.map_cons, List.map_nil, QM10.out, QM11.out]; rfl)
  clear Q10 Q11
  clear QM10 QM11 K3
  go_wp2_with fail
  try rw [← hg3]
  try rw [← hw3]
  clear hg3 hw3
  refine (inequality_any (2) (5) w3 (by decide) (by decide) (by decide) (by decide)).mono ?_
  rintro e w4 ⟨⟨A12, n12, c12, L12, ⟨s12, B12, m12, d12, z12⟩⟩, rfl, hm, ho, hb⟩
  replace HB := Lib.hid (HB.out.trans (hb.mono HB.out.size))
  replace I0 := Lib.hid (I0.out.below hb)
  have Q12 := Lib.hid ho
  have QM12 := Lib.hid hm
  clear ho hm
  unfold Iq.val
  dsimp only
  clear hb
  go_wp2_with fail
  refine (inequality_any (-2) (-5) w4 (by decide) (by decide) (by decide) (by decide)).mono ?_
  rintro e w5 ⟨⟨A13, n13, c13, L13, ⟨s13, B13, m13, d13, z13⟩⟩, rfl, hm, ho, hb⟩
  replace HB := Lib.hid (HB.out.trans (hb.mono HB.out.size))
  replace I0 := Lib.hid (I0.out.below hb)
  replace Q12 := Lib.hid (Q12.out.below hb)
  have Q13 := Lib.hid ho
  have QM13 := Lib.hid hm
  clear ho hm
  unfold Iq.val
  dsimp only
  clear hb
  obtain ⟨g6, hg6⟩ : ∃ g, g = w5.heap.size := ⟨_, rfl⟩
  obtain ⟨w6, hw6⟩ : ∃ W, W = w5.alloc (.cells #[.slice A12 n12 c12, .bool s12, .slice B12 m12 d12, .slice A13 n13 c13, .bool s13, .slice B13 m13 d13] 44) := ⟨_, rfl⟩
  have hb : Below w5.heap.size w5 w6 := by rw [hw6]; exact (Below.refl _ _).alloc (Nat.le_refl _) _
  replace HB := Lib.hid (HB.out.trans (hb.mono HB.out.size))
  replace I0 := Lib.hid (I0.out.below hb)
  replace Q12 := Lib.hid (Q12.out.below hb)
  replace Q13 := Lib.hid (Q13.out.below hb)
  have K6 := Lib.hid (show Blk w6 g6 44 #[.slice A12 n12 c12, .bool s12, .slice B12 m12 d12, .slice A13 n13 c13, .bool s13, .slice B13 m13 d13] by rw [hw6]; exact Blk.new_ hg6 rfl)
  clear hb
  have I1 := Lib.hid (ineqs2 Q12.out Q13.out K6.out)
  have IM1 := Lib.hid (show [(⟨A12, n12, c12, L12, ⟨s12, B12, m12, d12, z12⟩⟩ : Iq), ⟨A13, n13, c13, L13, ⟨s13, B13, m13, d13, z13⟩⟩].map Iq.m = two2 by rw [List.map_cons, List.map_cons, List.map_nil, QM12.out, QM13.out]; rfl)
  clear Q12 Q13
  clear QM12 QM13 K6
  go_wp2_with fail
  try rw [← hg6]
  try rw [← hw6]
  clear hg6 hw6
  refine (inequality_any (3) (4) w6 (by decide) (by decide) (by decide) (by decide)).mono ?_
  rintro e w7 ⟨⟨A14, n14, c14, L14, ⟨s14, B14, m14, d14, z14⟩⟩, rfl, hm, ho, hb⟩
  replace HB := Lib.hid (HB.out.trans (hb.mono HB.out.size))
  replace I0 := Lib.hid (I0.out.below hb)
  replace I1 := Lib.hid (I1.out.below hb)
  have Q14 := Lib.hid ho
  have QM14 := Lib.hid hm
  clear ho hm
  unfold Iq.val
  dsimp only
  clear hb
  go_wp2_with fail
  refine (inequality_any (-3) (-4) w7 (by decide) (by decide) (by decide) (by decide)).mono ?_
  rintro e w8 ⟨⟨A15, n15, c15, L15, ⟨s15, B15, m15, d15, z15⟩⟩, rfl, hm, ho, hb⟩
  replace HB := Lib.hid (HB.out.trans (hb.mono HB.out.size))
  replace I0 := Lib.hid (I0.out.below hb)
  replace I1 := Lib.hid (I1.out.below hb)
  replace Q14 := Lib.hid (Q14.out.below hb)
  have Q15 := Lib.hid ho
  have QM15 := Lib.hid hm
  clear ho hm
  unfold Iq.val
  dsimp only
  clear hb
  obtain ⟨g9, hg9⟩ : ∃ g, g = w8.heap.size := ⟨_, rfl⟩
  obtain ⟨w9, hw9⟩ : ∃ W, W = w8.alloc (.cells #[.slice A14 n14 c14, .bool s14, .slice B14 m14 d14, .slice A15 n15 c15, .bool s15, .slice B15 m15 d15] 44) := ⟨_, rfl⟩
  have hb : Below w8.heap.size w8 w9 := by rw [hw9]; exact (Below.refl _ _).alloc (Nat.le_refl _) _
  replace HB := Lib.hid (HB.out.trans (hb.mono HB.out.size))
  replace I0 := Lib.hid (I0.out.below hb)
  replace I1 := Lib.hid (I1.out.below hb)
  replace Q14 := Lib.hid (Q14.out.below hb)
  replace Q15 := Lib.hid (Q15.out.below hb)
  have K9 := Lib.hid (show Blk w9 g9 44 #[.slice A14 n14 c14, .bool s14, .slice B14 m14 d14, .slice A15 n15 c15, .bool s15, .slice B15 m15 d15] by rw [hw9]; exact Blk.new_ hg9 rfl)
  clear hb
  have I2 := Lib.hid (ineqs2 Q14.out Q15.out K9.out)
  have IM2 := Lib.hid (show [(⟨A14, n14, c14, L14, ⟨s14, B14, m14, d14, z14⟩⟩ : Iq), ⟨A15, n15, c15, L15, ⟨s15, B15, m15, d15, z15⟩⟩].map Iq.m = two3 by rw [List.map_cons, List.map_cons, List.map_nil, QM14.out, QM15.out]; rfl)
  clear Q14 Q15
  clear QM14 QM15 K9
  go_wp2_with fail
  try rw [← hg9]
  try rw [← hw9]
  clear hg9 hw9
  refine (use_any (0) (1) w9 (by decide) (by decide)).mono ?_
  rintro e w10 ⟨⟨i20, ⟨s20, A20, n20, c20, z20⟩⟩, rfl, hm, ho, hb⟩
  replace HB := Lib.hid (HB.out.trans (hb.mono HB.out.size))
  replace I0 := Lib.hid (I0.out.below hb)
  replace I1 := Lib.hid (I1.out.below hb)
  replace I2 := Lib.hid (I2.out.below hb)
  obtain ⟨rfl, rfl⟩ : i20 = (0) ∧ z20 = (1) := by simpa [Us.m] using hm
  have U20 := Lib.hid (show Bg.ok _ 2 ⟨s20, A20, n20, c20, (1)⟩ from ho.bg)
  clear ho hm
  unfold Us.val
  dsimp only
  clear hb
  obtain ⟨g11, hg11⟩ : ∃ g, g = w10.heap.size := ⟨_, rfl⟩
  obtain ⟨w11, hw11⟩ : ∃ W, W = w10.alloc (.cells #[.int .i64 (0), .bool s20, .slice A20 n20 c20] 62) := ⟨_, rfl⟩
  have hb : Below w10.heap.size w10 w11 := by rw [hw11]; exact (Below.refl _ _).alloc (Nat.le_refl _) _
  replace HB := Lib.hid (HB.out.trans (hb.mono HB.out.size))
  replace I0 := Lib.hid (I0.out.below hb)
  replace I1 := Lib.hid (I1.out.below hb)
  replace I2 := Lib.hid (I2.out.below hb)
  replace U20 := Lib.hid (U20.out.below hb)
  have K11 := Lib.hid (show Blk w11 g11 62 #[.int .i64 (0), .bool s20, .slice A20 n20 c20] by rw [hw11]; exact Blk.new_ hg11 rfl)
  clear hb
  have V0 := Lib.hid (uses1 (u := ⟨(0), ⟨s20, A20, n20, c20, (1)⟩⟩) U20.out K11.out)
  clear K11
  clear U20
  go_wp2_with fail
  try rw [← hg11]
  try rw [← hw11]
  clear hg11 hw11
  refine (lbig_any (2) w11 (by decide) (by decide)).mono ?_
  rintro e w12 ⟨⟨s21, A21, n21, c21, z21⟩, rfl, rfl, ho, hb⟩
  replace HB := Lib.hid (HB.out.trans (hb.mono HB.out.size))
  replace I0 := Lib.hid (I0.out.below hb)
  replace I1 := Lib.hid (I1.out.below hb)
  replace I2 := Lib.hid (I2.out.below hb)
  replace V0 := Lib.hid (V0.out.below hb)
  have U21 := Lib.hid (show Bg.ok _ 2 ⟨s21, A21, n21, c21, (2)⟩ from ho.bg)
  clear ho
  unfold Bg.val
  dsimp only
  clear hb
  go_wp2_with fail
  refine (use_any (1) (1) w12 (by decide) (by decide)).mono ?_
  rintro e w13 ⟨⟨i22, ⟨s22, A22, n22, c22, z22⟩⟩, rfl, hm, ho, hb⟩
  replace HB := Lib.hid (HB.out.trans (hb.mono HB.out.size))
  replace I0 := Lib.hid (I0.out.below hb)
  replace I1 := Lib.hid (I1.out.below hb)
  replace I2 := Lib.hid (I2.out.below hb)
  replace V0 := Lib.hid (V0.out.below hb)
  replace U21 := Lib.hid (U21.out.below hb)
  obtain ⟨rfl, rfl⟩ : i22 = (1) ∧ z22 = (1) := by simpa [Us.m] using hm
  have U22 := Lib.hid (show Bg.ok _ 2 ⟨s22, A22, n22, c22, (1)⟩ from ho.bg)
  clear ho hm
  unfold Us.val
  dsimp only
  clear hb
  obtain ⟨g14, hg14⟩ : ∃ g, g = w13.heap.size := ⟨_, rfl⟩
  obtain ⟨w14, hw14⟩ : ∃ W, W = w13.alloc (.cells #[.int .i64 (1), .bool s22, .slice A22 n22 c22] 62) := ⟨_, rfl⟩
  have hb : Below w13.heap.size w13 w14 := by rw [hw14]; exact (Below.refl _ _).alloc (Nat.le_refl _) _
  replace HB := Lib.hid (HB.out.trans (hb.mono HB.out.size))
  replace I0 := Lib.hid (I0.out.below hb)
  replace I1 := Lib.hid (I1.out.below hb)
  replace I2 := Lib.hid (I2.out.below hb)
  replace V0 := Lib.hid (V0.out.below hb)
  replace U21 := Lib.hid (U21.out.below hb)
  replace U22 := Lib.hid (U22.out.below hb)
  have K14 := Lib.hid (show Blk w14 g14 62 #[.int .i64 (1), .bool s22, .slice A22 n22 c22] by rw [hw14]; exact Blk.new_ hg14 rfl)
  clear hb
  have V1 := Lib.hid (uses1 (u := ⟨(1), ⟨s22, A22, n22, c22, (1)⟩⟩) U22.out K14.out)
  clear K14
  clear U22
  go_wp2_with fail
  try rw [← hg14]
  try rw [← hw14]
  clear hg14 hw14
  refine (lbig_any (2) w14 (by decide) (by decide)).mono ?_
  rintro e w15 ⟨⟨s23, A23, n23, c23, z23⟩, rfl, rfl, ho, hb⟩
  replace HB := Lib.hid (HB.out.trans (hb.mono HB.out.size))
  replace I0 := Lib.hid (I0.out.below hb)
  replace I1 := Lib.hid (I1.out.below hb)
  replace I2 := Lib.hid (I2.out.below hb)
  replace V0 := Lib.hid (V0.out.below hb)
  replace U21 := Lib.hid (U21.out.below hb)
  replace V1 := Lib.hid (V1.out.below hb)
  have U23 := Lib.hid (show Bg.ok _ 2 ⟨s23, A23, n23, c23, (2)⟩ from ho.bg)
  clear ho
  unfold Bg.val
  dsimp only
  clear hb
  go_wp2_with fail
  refine (use_any (2) (1) w15 (by decide) (by decide)).mono ?_
  rintro e w16 ⟨⟨i24, ⟨s24, A24, n24, c24, z24⟩⟩, rfl, hm, ho, hb⟩
  replace HB := Lib.hid (HB.out.trans (hb.mono HB.out.size))
  replace I0 := Lib.hid (I0.out.below hb)
  replace I1 := Lib.hid (I1.out.below hb)
  replace I2 := Lib.hid (I2.out.below hb)
  replace V0 := Lib.hid (V0.out.below hb)
  replace U21 := Lib.hid (U21.out.below hb)
  replace V1 := Lib.hid (V1.out.below hb)
  replace U23 := Lib.hid (U23.out.below hb)
  obtain ⟨rfl, rfl⟩ : i24 = (2) ∧ z24 = (1) := by simpa [Us.m] using hm
  have U24 := Lib.hid (show Bg.ok _ 2 ⟨s24, A24, n24, c24, (1)⟩ from ho.bg)
  clear ho hm
  unfold Us.val
  dsimp only
  clear hb
  go_wp2_with fail
  refine (use_any (3) (1) w16 (by decide) (by decide)).mono ?_
  rintro e w17 ⟨⟨i25, ⟨s25, A25, n25, c25, z25⟩⟩, rfl, hm, ho, hb⟩
  replace HB := Lib.hid (HB.out.trans (hb.mono HB.out.size))
  replace I0 := Lib.hid (I0.out.below hb)
  replace I1 := Lib.hid (I1.out.below hb)
  replace I2 := Lib.hid (I2.out.below hb)
  replace V0 := Lib.hid (V0.out.below hb)
  replace U21 := Lib.hid (U21.out.below hb)
  replace V1 := Lib.hid (V1.out.below hb)
  replace U23 := Lib.hid (U23.out.below hb)
  replace U24 := Lib.hid (U24.out.below hb)
  obtain ⟨rfl, rfl⟩ : i25 = (3) ∧ z25 = (1) := by simpa [Us.m] using hm
  have U25 := Lib.hid (show Bg.ok _ 2 ⟨s25, A25, n25, c25, (1)⟩ from ho.bg)
  clear ho hm
  unfold Us.val
  dsimp only
  clear hb
  obtain ⟨g18, hg18⟩ : ∃ g, g = w17.heap.size := ⟨_, rfl⟩
  obtain ⟨w18, hw18⟩ : ∃ W, W = w17.alloc (.cells #[.int .i64 (2), .bool s24, .slice A24 n24 c24, .int .i64 (3), .bool s25, .slice A25 n25 c25] 62) := ⟨_, rfl⟩
  have hb : Below w17.heap.size w17 w18 := by rw [hw18]; exact (Below.refl _ _).alloc (Nat.le_refl _) _
  replace HB := Lib.hid (HB.out.trans (hb.mono HB.out.size))
  replace I0 := Lib.hid (I0.out.below hb)
  replace I1 := Lib.hid (I1.out.below hb)
  replace I2 := Lib.hid (I2.out.below hb)
  replace V0 := Lib.hid (V0.out.below hb)
  replace U21 := Lib.hid (U21.out.below hb)
  replace V1 := Lib.hid (V1.out.below hb)
  replace U23 := Lib.hid (U23.out.below hb)
  replace U24 := Lib.hid (U24.out.below hb)
  replace U25 := Lib.hid (U25.out.below hb)
  have K18 := Lib.hid (show Blk w18 g18 62 #[.int .i64 (2), .bool s24, .slice A24 n24 c24, .int .i64 (3), .bool s25, .slice A25 n25 c25] by rw [hw18]; exact Blk.new_ hg18 rfl)
  clear hb
  have V2 := Lib.hid (uses2 (u := ⟨(2), ⟨s24, A24, n24, c24, (1)⟩⟩) (v := ⟨(3), ⟨s25, A25, n25, c25, (1)⟩⟩) U24.out U25.out K18.out)
  clear K18
  clear U24 U25
  go_wp2_with fail
  try rw [← hg18]
  try rw [← hw18]
  clear hg18 hw18
  refine (lbig_any (1) w18 (by decide) (by decide)).mono ?_
  rintro e w19 ⟨⟨s26, A26, n26, c26, z26⟩, rfl, rfl, ho, hb⟩
  replace HB := Lib.hid (HB.out.trans (hb.mono HB.out.size))
  replace I0 := Lib.hid (I0.out.below hb)
  replace I1 := Lib.hid (I1.out.below hb)
  replace I2 := Lib.hid (I2.out.below hb)
  replace V0 := Lib.hid (V0.out.below hb)
  replace U21 := Lib.hid (U21.out.below hb)
  replace V1 := Lib.hid (V1.out.below hb)
  replace U23 := Lib.hid (U23.out.below hb)
  replace V2 := Lib.hid (V2.out.below hb)
  have U26 := Lib.hid (show Bg.ok _ 2 ⟨s26, A26, n26, c26, (1)⟩ from ho.bg)
  clear ho
  unfold Bg.val
  dsimp only
  clear hb
  obtain ⟨g20, hg20⟩ : ∃ g, g = w19.heap.size := ⟨_, rfl⟩
  obtain ⟨w20, hw20⟩ : ∃ W, W = w19.alloc (.cells #[.slice (some ⟨g11, 0, none⟩) 1 1, .bool s21, .slice A21 n21 c21, .slice (some ⟨g14, 0, none⟩) 1 1, .bool s23, .slice A23 n23 c23, .slice (some ⟨g18, 0, none⟩) 2 2, .bool s26, .slice A26 n26 c26] 39) := ⟨_, rfl⟩
  have hb : Below w19.heap.size w19 w20 := by rw [hw20]; exact (Below.refl _ _).alloc (Nat.le_refl _) _
  replace HB := Lib.hid (HB.out.trans (hb.mono HB.out.size))
  replace I0 := Lib.hid (I0.out.below hb)
  replace I1 := Lib.hid (I1.out.below hb)
  replace I2 := Lib.hid (I2.out.below hb)
  replace V0 := Lib.hid (V0.out.below hb)
  replace U21 := Lib.hid (U21.out.below hb)
  replace V1 := Lib.hid (V1.out.below hb)
  replace U23 := Lib.hid (U23.out.below hb)
  replace V2 := Lib.hid (V2.out.below hb)
  replace U26 := Lib.hid (U26.out.below hb)
  have K20 := Lib.hid (show Blk w20 g20 39 #[.slice (some ⟨g11, 0, none⟩) 1 1, .bool s21, .slice A21 n21 c21, .slice (some ⟨g14, 0, none⟩) 1 1, .bool s23, .slice A23 n23 c23, .slice (some ⟨g18, 0, none⟩) 2 2, .bool s26, .slice A26 n26 c26] by rw [hw20]; exact Blk.new_ hg20 rfl)
  clear hb
  have P := Lib.hid (pf3 (s := ⟨some ⟨g11, 0, none⟩, 1, 1, [⟨(0), ⟨s20, A20, n20, c20, (1)⟩⟩], ⟨s21, A21, n21, c21, (2)⟩⟩) (t := ⟨some ⟨g14, 0, none⟩, 1, 1, [⟨(1), ⟨s22, A22, n22, c22, (1)⟩⟩], ⟨s23, A23, n23, c23, (2)⟩⟩) (u := ⟨some ⟨g18, 0, none⟩, 2, 2, [⟨(2), ⟨s24, A24, n24, c24, (1)⟩⟩, ⟨(3), ⟨s25, A25, n25, c25, (1)⟩⟩], ⟨s26, A26, n26, c26, (1)⟩⟩) ⟨V0.out, U21.out⟩ ⟨V1.out, U23.out⟩ ⟨V2.out, U26.out⟩ (by dsimp only; decide) (by dsimp only; decide) (by dsimp only; decide) K20.out)
  clear K20
  obtain ⟨p, hp⟩ : ∃ p, p = (Pf.mk (some ⟨g20, 0, none⟩) 3 3 [⟨some ⟨g11, 0, none⟩, 1, 1, [⟨(0), ⟨s20, A20, n20, c20, (1)⟩⟩], ⟨s21, A21, n21, c21, (2)⟩⟩, ⟨some ⟨g14, 0, none⟩, 1, 1, [⟨(1), ⟨s22, A22, n22, c22, (1)⟩⟩], ⟨s23, A23, n23, c23, (2)⟩⟩, ⟨some ⟨g18, 0, none⟩, 2, 2, [⟨(2), ⟨s24, A24, n24, c24, (1)⟩⟩, ⟨(3), ⟨s25, A25, n25, c25, (1)⟩⟩], ⟨s26, A26, n26, c26, (1)⟩⟩] none 0 0 [] Bg.zero none 0 0 []) := ⟨_, rfl⟩
  replace P := Lib.hid (show Pf.ok _ 2 p by rw [hp]; exact P.out)
  have PV := Lib.hid (show p.val = .agg #[.slice (some ⟨g20, 0, none⟩) 3 3, .slice none 0 0, .bool false, .slice none 0 0, .slice none 0 0] by rw [hp]; rfl)
  have PM := Lib.hid (show p.m = pP by rw [hp, Pf.m_eq]; rfl)
  clear hp
  clear V0 U21 V1 U23 V2 U26
  obtain ⟨g21, hg21⟩ : ∃ g, g = w20.heap.size := ⟨_, rfl⟩
  obtain ⟨w21, hw21⟩ : ∃ W, W = w20.alloc (.cells #[.slice (some ⟨g20, 0, none⟩) 3 3, .slice none 0 0, .bool false, .slice none 0 0, .slice none 0 0] 52) := ⟨_, rfl⟩
  have hb : Below w20.heap.size w20 w21 := by rw [hw21]; exact (Below.refl _ _).alloc (Nat.le_refl _) _
  replace HB := Lib.hid (HB.out.trans (hb.mono HB.out.size))
  replace I0 := Lib.hid (I0.out.below hb)
  replace I1 := Lib.hid (I1.out.below hb)
  replace I2 := Lib.hid (I2.out.below hb)
  replace P := Lib.hid (P.out.keep hb)
  have K21 := Lib.hid (show Blk w21 g21 52 #[.slice (some ⟨g20, 0, none⟩) 3 3, .slice none 0 0, .bool false, .slice none 0 0, .slice none 0 0] by rw [hw21]; exact Blk.new_ hg21 rfl)
  clear hb
  have hgg : g20 + 1 = g21 := by rw [hg21, hw20, hg20]; simp
  go_wp2_with fail
  try rw [← hg20]
  try rw [← hw20]
  try rw [← hg21]
  try rw [← hw21]
  rw [hgg]
  clear hgg
  clear hg20 hw20 hg21 hw21
  refine (lbig_any (1) w21 (by decide) (by decide)).mono ?_
  rintro e w22 ⟨⟨s30, A30, n30, c30, z30⟩, rfl, rfl, ho, hb⟩
  replace HB := Lib.hid (HB.out.trans (hb.mono HB.out.size))
  replace I0 := Lib.hid (I0.out.below hb)
  replace I1 := Lib.hid (I1.out.below hb)
  replace I2 := Lib.hid (I2.out.below hb)
  replace P := Lib.hid (P.out.keep hb)
  replace K21 := Lib.hid (K21.out.below hb)
  have U30 := Lib.hid (show Bg.ok _ 2 ⟨s30, A30, n30, c30, (1)⟩ from ho.bg)
  clear ho
  unfold Bg.val
  dsimp only
  clear hb
  obtain ⟨g23, hg23⟩ : ∃ g, g = w22.heap.size := ⟨_, rfl⟩
  obtain ⟨w23, hw23⟩ : ∃ W, W = w22.alloc (.cells #[.bool s30, .slice A30 n30 c30] 37) := ⟨_, rfl⟩
  have hb : Below w22.heap.size w22 w23 := by rw [hw23]; exact (Below.refl _ _).alloc (Nat.le_refl _) _
  replace HB := Lib.hid (HB.out.trans (hb.mono HB.out.size))
  replace I0 := Lib.hid (I0.out.below hb)
  replace I1 := Lib.hid (I1.out.below hb)
  replace I2 := Lib.hid (I2.out.below hb)
  replace P := Lib.hid (P.out.keep hb)
  replace K21 := Lib.hid (K21.out.below hb)
  replace U30 := Lib.hid (U30.out.below hb)
  have K23 := Lib.hid (show Blk w23 g23 37 #[.bool s30, .slice A30 n30 c30] by rw [hw23]; exact Blk.new_ hg23 rfl)
  clear hb
  go_wp2_with fail
  try rw [← hg23]
  try rw [← hw23]
  clear hg23 hw23
  refine (lbig_any (1) w23 (by decide) (by decide)).mono ?_
  rintro e w24 ⟨⟨s32, A32, n32, c32, z32⟩, rfl, rfl, ho, hb⟩
  replace HB := Lib.hid (HB.out.trans (hb.mono HB.out.size))
  replace I0 := Lib.hid (I0.out.below hb)
  replace I1 := Lib.hid (I1.out.below hb)
  replace I2 := Lib.hid (I2.out.below hb)
  replace P := Lib.hid (P.out.keep hb)
  replace K21 := Lib.hid (K21.out.below hb)
  replace U30 := Lib.hid (U30.out.below hb)
  replace K23 := Lib.hid (K23.out.below hb)
  have U32 := Lib.hid (show Bg.ok _ 2 ⟨s32, A32, n32, c32, (1)⟩ from ho.bg)
  clear ho
  unfold Bg.val
  dsimp only
  clear hb
  go_wp2_with fail
  refine (use_any (2) (3) w24 (by decide) (by decide)).mono ?_
  rintro e w25 ⟨⟨i33, ⟨s33, A33, n33, c33, z33⟩⟩, rfl, hm, ho, hb⟩
  replace HB := Lib.hid (HB.out.trans (hb.mono HB.out.size))
  replace I0 := Lib.hid (I0.out.below hb)
  replace I1 := Lib.hid (I1.out.below hb)
  replace I2 := Lib.hid (I2.out.below hb)
  replace P := Lib.hid (P.out.keep hb)
  replace K21 := Lib.hid (K21.out.below hb)
  replace U30 := Lib.hid (U30.out.below hb)
  replace K23 := Lib.hid (K23.out.below hb)
  replace U32 := Lib.hid (U32.out.below hb)
  obtain ⟨rfl, rfl⟩ : i33 = (2) ∧ z33 = (3) := by simpa [Us.m] using hm
  have U33 := Lib.hid (show Bg.ok _ 2 ⟨s33, A33, n33, c33, (3)⟩ from ho.bg)
  clear ho hm
  unfold Us.val
  dsimp only
  clear hb
  go_wp2_with fail
  refine (use_any (1) (1) w25 (by decide) (by decide)).mono ?_
  rintro e w26 ⟨⟨i34, ⟨s34, A34, n34, c34, z34⟩⟩, rfl, hm, ho, hb⟩
  replace HB := Lib.hid (HB.out.trans (hb.mono HB.out.size))
  replace I0 := Lib.hid (I0.out.below hb)
  replace I1 := Lib.hid (I1.out.below hb)
  replace I2 := Lib.hid (I2.out.below hb)
  replace P := Lib.hid (P.out.keep hb)
  replace K21 := Lib.hid (K21.out.below hb)
  replace U30 := Lib.hid (U30.out.below hb)
  replace K23 := Lib.hid (K23.out.below hb)
  replace U32 := Lib.hid (U32.out.below hb)
  replace U33 := Lib.hid (U33.out.below hb)
  obtain ⟨rfl, rfl⟩ : i34 = (1) ∧ z34 = (1) := by simpa [Us.m] using hm
  have U34 := Lib.hid (show Bg.ok _ 2 ⟨s34, A34, n34, c34, (1)⟩ from ho.bg)
  clear ho hm
  unfold Us.val
  dsimp only
  clear hb
  obtain ⟨g27, hg27⟩ : ∃ g, g = w26.heap.size := ⟨_, rfl⟩
  obtain ⟨w27, hw27⟩ : ∃ W, W = w26.alloc (.cells #[.int .i64 (2), .bool s33, .slice A33 n33 c33, .int .i64 (1), .bool s34, .slice A34 n34 c34] 62) := ⟨_, rfl⟩
  have hb : Below w26.heap.size w26 w27 := by rw [hw27]; exact (Below.refl _ _).alloc (Nat.le_refl _) _
  replace HB := Lib.hid (HB.out.trans (hb.mono HB.out.size))
  replace I0 := Lib.hid (I0.out.below hb)
  replace I1 := Lib.hid (I1.out.below hb)
  replace I2 := Lib.hid (I2.out.below hb)
  replace P := Lib.hid (P.out.keep hb)
  replace K21 := Lib.hid (K21.out.below hb)
  replace U30 := Lib.hid (U30.out.below hb)
  replace K23 := Lib.hid (K23.out.below hb)
  replace U32 := Lib.hid (U32.out.below hb)
  replace U33 := Lib.hid (U33.out.below hb)
  replace U34 := Lib.hid (U34.out.below hb)
  have K27 := Lib.hid (show Blk w27 g27 62 #[.int .i64 (2), .bool s33, .slice A33 n33 c33, .int .i64 (1), .bool s34, .slice A34 n34 c34] by rw [hw27]; exact Blk.new_ hg27 rfl)
  clear hb
  have V := Lib.hid (uses2 (u := ⟨(2), ⟨s33, A33, n33, c33, (3)⟩⟩) (v := ⟨(1), ⟨s34, A34, n34, c34, (1)⟩⟩) U33.out U34.out K27.out)
  clear K27
  clear U33 U34
  go_wp2_with fail
  try rw [← hg27]
  try rw [← hw27]
  clear hg27 hw27
  refine (Sum_any w27 _ 2 2 _ 2 V.out (by decide) (by decide) (by decide)).mono ?_
  rintro e w28 ⟨pa, rfl, hpm, hpo, hb⟩
  replace HB := Lib.hid (HB.out.trans (hb.mono HB.out.size))
  replace I0 := Lib.hid (I0.out.below hb)
  replace I1 := Lib.hid (I1.out.below hb)
  replace I2 := Lib.hid (I2.out.below hb)
  replace P := Lib.hid (P.out.keep hb)
  replace K21 := Lib.hid (K21.out.below hb)
  replace U30 := Lib.hid (U30.out.below hb)
  replace K23 := Lib.hid (K23.out.below hb)
  replace U32 := Lib.hid (U32.out.below hb)
  have Pa := Lib.hid hpo
  have PMa := Lib.hid (show pa.m = sum2 (2, 3) (1, 1) from hpm)
  obtain ⟨xa0, xa1, xa2, xa3, xa4, hx⟩ : ∃ x0 x1 x2 x3 x4, pa.cells = [x0, x1, x2, x3, x4] := by cases pa; exact ⟨_, _, _, _, _, rfl⟩
  have PXa := Lib.hid hx
  have PVa := Lib.hid (show pa.val = .agg #[xa0, xa1, xa2, xa3, xa4] by unfold Pf.val; rw [hx])
  rw [PVa.out]
  clear hpm hpo hx V
  clear hb
  go_wp2_with fail
  refine (use_any (2) (3) w28 (by decide) (by decide)).mono ?_
  rintro e w29 ⟨⟨i37, ⟨s37, A37, n37, c37, z37⟩⟩, rfl, hm, ho, hb⟩
  replace HB := Lib.hid (HB.out.trans (hb.mono HB.out.size))
  replace I0 := Lib.hid (I0.out.below hb)
  replace I1 := Lib.hid (I1.out.below hb)
  replace I2 := Lib.hid (I2.out.below hb)
  replace P := Lib.hid (P.out.keep hb)
  replace K21 := Lib.hid (K21.out.below hb)
  replace U30 := Lib.hid (U30.out.below hb)
  replace K23 := Lib.hid (K23.out.below hb)
  replace U32 := Lib.hid (U32.out.below hb)
  replace Pa := Lib.hid (Pa.out.keep hb)
  obtain ⟨rfl, rfl⟩ : i37 = (2) ∧ z37 = (3) := by simpa [Us.m] using hm
  have U37 := Lib.hid (show Bg.ok _ 2 ⟨s37, A37, n37, c37, (3)⟩ from ho.bg)
  clear ho hm
  unfold Us.val
  dsimp only
  clear hb
  go_wp2_with fail
  refine (use_any (0) (1) w29 (by decide) (by decide)).mono ?_
  rintro e w30 ⟨⟨i38, ⟨s38, A38, n38, c38, z38⟩⟩, rfl, hm, ho, hb⟩
  replace HB := Lib.hid (HB.out.trans (hb.mono HB.out.size))
  replace I0 := Lib.hid (I0.out.below hb)
  replace I1 := Lib.hid (I1.out.below hb)
  replace I2 := Lib.hid (I2.out.below hb)
  replace P := Lib.hid (P.out.keep hb)
  replace K21 := Lib.hid (K21.out.below hb)
  replace U30 := Lib.hid (U30.out.below hb)
  replace K23 := Lib.hid (K23.out.below hb)
  replace U32 := Lib.hid (U32.out.below hb)
  replace Pa := Lib.hid (Pa.out.keep hb)
  replace U37 := Lib.hid (U37.out.below hb)
  obtain ⟨rfl, rfl⟩ : i38 = (0) ∧ z38 = (1) := by simpa [Us.m] using hm
  have U38 := Lib.hid (show Bg.ok _ 2 ⟨s38, A38, n38, c38, (1)⟩ from ho.bg)
  clear ho hm
  unfold Us.val
  dsimp only
  clear hb
  obtain ⟨g31, hg31⟩ : ∃ g, g = w30.heap.size := ⟨_, rfl⟩
  obtain ⟨w31, hw31⟩ : ∃ W, W = w30.alloc (.cells #[.int .i64 (2), .bool s37, .slice A37 n37 c37, .int .i64 (0), .bool s38, .slice A38 n38 c38] 62) := ⟨_, rfl⟩
  have hb : Below w30.heap.size w30 w31 := by rw [hw31]; exact (Below.refl _ _).alloc (Nat.le_refl _) _
  replace HB := Lib.hid (HB.out.trans (hb.mono HB.out.size))
  replace I0 := Lib.hid (I0.out.below hb)
  replace I1 := Lib.hid (I1.out.below hb)
  replace I2 := Lib.hid (I2.out.below hb)
  replace P := Lib.hid (P.out.keep hb)
  replace K21 := Lib.hid (K21.out.below hb)
  replace U30 := Lib.hid (U30.out.below hb)
  replace K23 := Lib.hid (K23.out.below hb)
  replace U32 := Lib.hid (U32.out.below hb)
  replace Pa := Lib.hid (Pa.out.keep hb)
  replace U37 := Lib.hid (U37.out.below hb)
  replace U38 := Lib.hid (U38.out.below hb)
  have K31 := Lib.hid (show Blk w31 g31 62 #[.int .i64 (2), .bool s37, .slice A37 n37 c37, .int .i64 (0), .bool s38, .slice A38 n38 c38] by rw [hw31]; exact Blk.new_ hg31 rfl)
  clear hb
  have V := Lib.hid (uses2 (u := ⟨(2), ⟨s37, A37, n37, c37, (3)⟩⟩) (v := ⟨(0), ⟨s38, A38, n38, c38, (1)⟩⟩) U37.out U38.out K31.out)
  clear K31
  clear U37 U38
  go_wp2_with fail
  try rw [← hg31]
  try rw [← hw31]
  clear hg31 hw31
  refine (Sum_any w31 _ 2 2 _ 2 V.out (by decide) (by decide) (by decide)).mono ?_
  rintro e w32 ⟨pb, rfl, hpm, hpo, hb⟩
  replace HB := Lib.hid (HB.out.trans (hb.mono HB.out.size))
  replace I0 := Lib.hid (I0.out.below hb)
  replace I1 := Lib.hid (I1.out.below hb)
  replace I2 := Lib.hid (I2.out.below hb)
  replace P := Lib.hid (P.out.keep hb)
  replace K21 := Lib.hid (K21.out.below hb)
  replace U30 := Lib.hid (U30.out.below hb)
  replace K23 := Lib.hid (K23.out.below hb)
  replace U32 := Lib.hid (U32.out.below hb)
  replace Pa := Lib.hid (Pa.out.keep hb)
  have Pb := Lib.hid hpo
  have PMb := Lib.hid (show pb.m = sum2 (2, 3) (0, 1) from hpm)
  obtain ⟨xb0, xb1, xb2, xb3, xb4, hx⟩ : ∃ x0 x1 x2 x3 x4, pb.cells = [x0, x1, x2, x3, x4] := by cases pb; exact ⟨_, _, _, _, _, rfl⟩
  have PXb := Lib.hid hx
  have PVb := Lib.hid (show pb.val = .agg #[xb0, xb1, xb2, xb3, xb4] by unfold Pf.val; rw [hx])
  rw [PVb.out]
  clear hpm hpo hx V
  clear hb
  obtain ⟨g33, hg33⟩ : ∃ g, g = w32.heap.size := ⟨_, rfl⟩
  obtain ⟨w33, hw33⟩ : ∃ W, W = w32.alloc (.cells #[xa0, xa1, xa2, xa3, xa4, xb0, xb1, xb2, xb3, xb4] 52) := ⟨_, rfl⟩
  have hb : Below w32.heap.size w32 w33 := by rw [hw33]; exact (Below.refl _ _).alloc (Nat.le_refl _) _
  replace HB := Lib.hid (HB.out.trans (hb.mono HB.out.size))
  replace I0 := Lib.hid (I0.out.below hb)
  replace I1 := Lib.hid (I1.out.below hb)
  replace I2 := Lib.hid (I2.out.below hb)
  replace P := Lib.hid (P.out.keep hb)
  replace K21 := Lib.hid (K21.out.below hb)
  replace U30 := Lib.hid (U30.out.below hb)
  replace K23 := Lib.hid (K23.out.below hb)
  replace U32 := Lib.hid (U32.out.below hb)
  replace Pa := Lib.hid (Pa.out.keep hb)
  replace Pb := Lib.hid (Pb.out.keep hb)
  have K33 := Lib.hid (show Blk w33 g33 52 #[xa0, xa1, xa2, xa3, xa4, xb0, xb1, xb2, xb3, xb4] by rw [hw33]; exact Blk.new_ hg33 rfl)
  clear hb
  have R := Lib.hid (pf2 (a := ⟨s30, A30, n30, c30, (1)⟩) (b := ⟨s32, A32, n32, c32, (1)⟩) U30.out U32.out Pa.out Pb.out K23.out (show Blk _ g33 52 (pa.cells ++ pb.cells).toArray by rw [PXa.out, PXb.out]; exact K33.out))
  clear K33
  obtain ⟨q, hq⟩ : ∃ p, p = (Pf.mk none 0 0 [] (some ⟨g23, 0, none⟩) 1 1 [⟨s30, A30, n30, c30, (1)⟩] ⟨s32, A32, n32, c32, (1)⟩ (some ⟨g33, 0, none⟩) 2 2 [pa, pb]) := ⟨_, rfl⟩
  replace R := Lib.hid (show Pf.ok _ 2 q by rw [hq]; exact R.out)
  have RV := Lib.hid (show q.val = .agg #[.slice none 0 0, .slice (some ⟨g23, 0, none⟩) 1 1, .bool s32, .slice A32 n32 c32, .slice (some ⟨g33, 0, none⟩) 2 2] by rw [hq]; rfl)
  have RM := Lib.hid (show q.m = pQ by rw [hq, Pf.m_eq]; simp only [List.map_cons, List.map_nil, PMa.out, PMb.out]; rfl)
  clear hq PMa PMb PXa PXb
  clear U30 U32 Pa Pb
  clear K23
  obtain ⟨g34, hg34⟩ : ∃ g, g = w33.heap.size := ⟨_, rfl⟩
  obtain ⟨w34, hw34⟩ : ∃ W, W = w33.alloc (.cells #[.slice none 0 0, .slice (some ⟨g23, 0, none⟩) 1 1, .bool s32, .slice A32 n32 c32, .slice (some ⟨g33, 0, none⟩) 2 2] 52) := ⟨_, rfl⟩
  have hb : Below w33.heap.size w33 w34 := by rw [hw34]; exact (Below.refl _ _).alloc (Nat.le_refl _) _
  replace HB := Lib.hid (HB.out.trans (hb.mono HB.out.size))
  replace I0 := Lib.hid (I0.out.below hb)
  replace I1 := Lib.hid (I1.out.below hb)
  replace I2 := Lib.hid (I2.out.below hb)
  replace P := Lib.hid (P.out.keep hb)
  replace K21 := Lib.hid (K21.out.below hb)
  replace R := Lib.hid (R.out.keep hb)
  have K34 := Lib.hid (show Blk w34 g34 52 #[.slice none 0 0, .slice (some ⟨g23, 0, none⟩) 1 1, .bool s32, .slice A32 n32 c32, .slice (some ⟨g33, 0, none⟩) 2 2] by rw [hw34]; exact Blk.new_ hg34 rfl)
  clear hb
  have hgg : g33 + 1 = g34 := by rw [hg34, hw33, hg33]; simp
  go_wp2_with fail
  try rw [← hg33]
  try rw [← hw33]
  try rw [← hg34]
  try rw [← hw34]
  rw [hgg]
  clear hgg
  clear hg33 hw33 hg34 hw34
  refine (use_any (0) (1) w34 (by decide) (by decide)).mono ?_
  rintro e w35 ⟨⟨i51, ⟨s51, A51, n51, c51, z51⟩⟩, rfl, hm, ho, hb⟩
  replace HB := Lib.hid (HB.out.trans (hb.mono HB.out.size))
  replace I0 := Lib.hid (I0.out.below hb)
  replace I1 := Lib.hid (I1.out.below hb)
  replace I2 := Lib.hid (I2.out.below hb)
  replace P := Lib.hid (P.out.keep hb)
  replace K21 := Lib.hid (K21.out.below hb)
  replace R := Lib.hid (R.out.keep hb)
  replace K34 := Lib.hid (K34.out.below hb)
  obtain ⟨rfl, rfl⟩ : i51 = (0) ∧ z51 = (1) := by simpa [Us.m] using hm
  have U51 := Lib.hid (show Bg.ok _ 2 ⟨s51, A51, n51, c51, (1)⟩ from ho.bg)
  clear ho hm
  unfold Us.val
  dsimp only
  clear hb
  go_wp2_with fail
  refine (use_any (1) (1) w35 (by decide) (by decide)).mono ?_
  rintro e w36 ⟨⟨i52, ⟨s52, A52, n52, c52, z52⟩⟩, rfl, hm, ho, hb⟩
  replace HB := Lib.hid (HB.out.trans (hb.mono HB.out.size))
  replace I0 := Lib.hid (I0.out.below hb)
  replace I1 := Lib.hid (I1.out.below hb)
  replace I2 := Lib.hid (I2.out.below hb)
  replace P := Lib.hid (P.out.keep hb)
  replace K21 := Lib.hid (K21.out.below hb)
  replace R := Lib.hid (R.out.keep hb)
  replace K34 := Lib.hid (K34.out.below hb)
  replace U51 := Lib.hid (U51.out.below hb)
  obtain ⟨rfl, rfl⟩ : i52 = (1) ∧ z52 = (1) := by simpa [Us.m] using hm
  have U52 := Lib.hid (show Bg.ok _ 2 ⟨s52, A52, n52, c52, (1)⟩ from ho.bg)
  clear ho hm
  unfold Us.val
  dsimp only
  clear hb
  obtain ⟨g37, hg37⟩ : ∃ g, g = w36.heap.size := ⟨_, rfl⟩
  obtain ⟨w37, hw37⟩ : ∃ W, W = w36.alloc (.cells #[.int .i64 (0), .bool s51, .slice A51 n51 c51, .int .i64 (1), .bool s52, .slice A52 n52 c52] 62) := ⟨_, rfl⟩
  have hb : Below w36.heap.size w36 w37 := by rw [hw37]; exact (Below.refl _ _).alloc (Nat.le_refl _) _
  replace HB := Lib.hid (HB.out.trans (hb.mono HB.out.size))
  replace I0 := Lib.hid (I0.out.below hb)
  replace I1 := Lib.hid (I1.out.below hb)
  replace I2 := Lib.hid (I2.out.below hb)
  replace P := Lib.hid (P.out.keep hb)
  replace K21 := Lib.hid (K21.out.below hb)
  replace R := Lib.hid (R.out.keep hb)
  replace K34 := Lib.hid (K34.out.below hb)
  replace U51 := Lib.hid (U51.out.below hb)
  replace U52 := Lib.hid (U52.out.below hb)
  have K37 := Lib.hid (show Blk w37 g37 62 #[.int .i64 (0), .bool s51, .slice A51 n51 c51, .int .i64 (1), .bool s52, .slice A52 n52 c52] by rw [hw37]; exact Blk.new_ hg37 rfl)
  clear hb
  have V := Lib.hid (uses2 (u := ⟨(0), ⟨s51, A51, n51, c51, (1)⟩⟩) (v := ⟨(1), ⟨s52, A52, n52, c52, (1)⟩⟩) U51.out U52.out K37.out)
  clear K37
  clear U51 U52
  go_wp2_with fail
  try rw [← hg37]
  try rw [← hw37]
  clear hg37 hw37
  refine (Sum_any w37 _ 2 2 _ 2 V.out (by decide) (by decide) (by decide)).mono ?_
  rintro e w38 ⟨pc, rfl, hpm, hpo, hb⟩
  replace HB := Lib.hid (HB.out.trans (hb.mono HB.out.size))
  replace I0 := Lib.hid (I0.out.below hb)
  replace I1 := Lib.hid (I1.out.below hb)
  replace I2 := Lib.hid (I2.out.below hb)
  replace P := Lib.hid (P.out.keep hb)
  replace K21 := Lib.hid (K21.out.below hb)
  replace R := Lib.hid (R.out.keep hb)
  replace K34 := Lib.hid (K34.out.below hb)
  have Pc := Lib.hid hpo
  have PMc := Lib.hid (show pc.m = sum2 (0, 1) (1, 1) from hpm)
  obtain ⟨xc0, xc1, xc2, xc3, xc4, hx⟩ : ∃ x0 x1 x2 x3 x4, pc.cells = [x0, x1, x2, x3, x4] := by cases pc; exact ⟨_, _, _, _, _, rfl⟩
  have PVc := Lib.hid (show pc.val = .agg #[xc0, xc1, xc2, xc3, xc4] by unfold Pf.val; rw [hx])
  rw [PVc.out]
  clear hpm hpo hx V
  clear hb
  have CK := Lib.hid (ckl (c := 2) I0.out Pc.out IM0.out PMc.out (by decide) (by rw [sz0]; decide) sy1)
  rw [PVc.out] at CK
  go_wp2_with fail
  refine (CK.out).mono ?_
  rintro e w39 ⟨rfl, hb⟩
  replace HB := Lib.hid (HB.out.trans (hb.mono HB.out.size))
  replace I0 := Lib.hid (I0.out.below hb)
  replace I1 := Lib.hid (I1.out.below hb)
  replace I2 := Lib.hid (I2.out.below hb)
  replace P := Lib.hid (P.out.keep hb)
  replace K21 := Lib.hid (K21.out.below hb)
  replace R := Lib.hid (R.out.keep hb)
  replace K34 := Lib.hid (K34.out.below hb)
  replace Pc := Lib.hid (Pc.out.keep hb)
  clear CK
  clear hb
  clear Pc
  go_wp2_with fail
  refine (use_any (0) (1) w39 (by decide) (by decide)).mono ?_
  rintro e w40 ⟨⟨i53, ⟨s53, A53, n53, c53, z53⟩⟩, rfl, hm, ho, hb⟩
  replace HB := Lib.hid (HB.out.trans (hb.mono HB.out.size))
  replace I0 := Lib.hid (I0.out.below hb)
  replace I1 := Lib.hid (I1.out.below hb)
  replace I2 := Lib.hid (I2.out.below hb)
  replace P := Lib.hid (P.out.keep hb)
  replace K21 := Lib.hid (K21.out.below hb)
  replace R := Lib.hid (R.out.keep hb)
  replace K34 := Lib.hid (K34.out.below hb)
  obtain ⟨rfl, rfl⟩ : i53 = (0) ∧ z53 = (1) := by simpa [Us.m] using hm
  have U53 := Lib.hid (show Bg.ok _ 2 ⟨s53, A53, n53, c53, (1)⟩ from ho.bg)
  clear ho hm
  unfold Us.val
  dsimp only
  clear hb
  go_wp2_with fail
  refine (use_any (1) (1) w40 (by decide) (by decide)).mono ?_
  rintro e w41 ⟨⟨i54, ⟨s54, A54, n54, c54, z54⟩⟩, rfl, hm, ho, hb⟩
  replace HB := Lib.hid (HB.out.trans (hb.mono HB.out.size))
  replace I0 := Lib.hid (I0.out.below hb)
  replace I1 := Lib.hid (I1.out.below hb)
  replace I2 := Lib.hid (I2.out.below hb)
  replace P := Lib.hid (P.out.keep hb)
  replace K21 := Lib.hid (K21.out.below hb)
  replace R := Lib.hid (R.out.keep hb)
  replace K34 := Lib.hid (K34.out.below hb)
  replace U53 := Lib.hid (U53.out.below hb)
  obtain ⟨rfl, rfl⟩ : i54 = (1) ∧ z54 = (1) := by simpa [Us.m] using hm
  have U54 := Lib.hid (show Bg.ok _ 2 ⟨s54, A54, n54, c54, (1)⟩ from ho.bg)
  clear ho hm
  unfold Us.val
  dsimp only
  clear hb
  obtain ⟨g42, hg42⟩ : ∃ g, g = w41.heap.size := ⟨_, rfl⟩
  obtain ⟨w42, hw42⟩ : ∃ W, W = w41.alloc (.cells #[.int .i64 (0), .bool s53, .slice A53 n53 c53, .int .i64 (1), .bool s54, .slice A54 n54 c54] 62) := ⟨_, rfl⟩
  have hb : Below w41.heap.size w41 w42 := by rw [hw42]; exact (Below.refl _ _).alloc (Nat.le_refl _) _
  replace HB := Lib.hid (HB.out.trans (hb.mono HB.out.size))
  replace I0 := Lib.hid (I0.out.below hb)
  replace I1 := Lib.hid (I1.out.below hb)
  replace I2 := Lib.hid (I2.out.below hb)
  replace P := Lib.hid (P.out.keep hb)
  replace K21 := Lib.hid (K21.out.below hb)
  replace R := Lib.hid (R.out.keep hb)
  replace K34 := Lib.hid (K34.out.below hb)
  replace U53 := Lib.hid (U53.out.below hb)
  replace U54 := Lib.hid (U54.out.below hb)
  have K42 := Lib.hid (show Blk w42 g42 62 #[.int .i64 (0), .bool s53, .slice A53 n53 c53, .int .i64 (1), .bool s54, .slice A54 n54 c54] by rw [hw42]; exact Blk.new_ hg42 rfl)
  clear hb
  have V := Lib.hid (uses2 (u := ⟨(0), ⟨s53, A53, n53, c53, (1)⟩⟩) (v := ⟨(1), ⟨s54, A54, n54, c54, (1)⟩⟩) U53.out U54.out K42.out)
  clear K42
  clear U53 U54
  go_wp2_with fail
  try rw [← hg42]
  try rw [← hw42]
  clear hg42 hw42
  refine (Sum_any w42 _ 2 2 _ 2 V.out (by decide) (by decide) (by decide)).mono ?_
  rintro e w43 ⟨pd, rfl, hpm, hpo, hb⟩
  replace HB := Lib.hid (HB.out.trans (hb.mono HB.out.size))
  replace I0 := Lib.hid (I0.out.below hb)
  replace I1 := Lib.hid (I1.out.below hb)
  replace I2 := Lib.hid (I2.out.below hb)
  replace P := Lib.hid (P.out.keep hb)
  replace K21 := Lib.hid (K21.out.below hb)
  replace R := Lib.hid (R.out.keep hb)
  replace K34 := Lib.hid (K34.out.below hb)
  have Pd := Lib.hid hpo
  have PMd := Lib.hid (show pd.m = sum2 (0, 1) (1, 1) from hpm)
  obtain ⟨xd0, xd1, xd2, xd3, xd4, hx⟩ : ∃ x0 x1 x2 x3 x4, pd.cells = [x0, x1, x2, x3, x4] := by cases pd; exact ⟨_, _, _, _, _, rfl⟩
  have PVd := Lib.hid (show pd.val = .agg #[xd0, xd1, xd2, xd3, xd4] by unfold Pf.val; rw [hx])
  rw [PVd.out]
  clear hpm hpo hx V
  clear hb
  have CK := Lib.hid (ckl (c := 2) I1.out Pd.out IM1.out PMd.out (by decide) (by rw [sz0]; decide) sy2)
  rw [PVd.out] at CK
  go_wp2_with fail
  refine (CK.out).mono ?_
  rintro e w44 ⟨rfl, hb⟩
  replace HB := Lib.hid (HB.out.trans (hb.mono HB.out.size))
  replace I0 := Lib.hid (I0.out.below hb)
  replace I1 := Lib.hid (I1.out.below hb)
  replace I2 := Lib.hid (I2.out.below hb)
  replace P := Lib.hid (P.out.keep hb)
  replace K21 := Lib.hid (K21.out.below hb)
  replace R := Lib.hid (R.out.keep hb)
  replace K34 := Lib.hid (K34.out.below hb)
  replace Pd := Lib.hid (Pd.out.keep hb)
  clear CK
  clear hb
  clear Pd
  have d0 : w44.cell? ⟨g21, 0, none⟩ = some (.slice (some ⟨g20, 0, none⟩) 3 3) := K21.out.cell 0
  have d1 : w44.cell? ⟨g21, 1, none⟩ = some (.slice none 0 0) := K21.out.cell 1
  have d2 : w44.cell? ⟨g21, 2, none⟩ = some (.bool false) := K21.out.cell 2
  have d3 : w44.cell? ⟨g21, 3, none⟩ = some (.slice none 0 0) := K21.out.cell 3
  have d4 : w44.cell? ⟨g21, 4, none⟩ = some (.slice none 0 0) := K21.out.cell 4
  have CK := Lib.hid (ckl (c := 2) I1.out P.out IM1.out PM.out (by decide) (by rw [sz1]; decide) sy3)
  rw [PV.out] at CK
  go_wp2_with fail
  refine (CK.out).mono ?_
  rintro e w45 ⟨rfl, hb⟩
  replace HB := Lib.hid (HB.out.trans (hb.mono HB.out.size))
  replace I0 := Lib.hid (I0.out.below hb)
  replace I1 := Lib.hid (I1.out.below hb)
  replace I2 := Lib.hid (I2.out.below hb)
  replace P := Lib.hid (P.out.keep hb)
  replace K21 := Lib.hid (K21.out.below hb)
  replace R := Lib.hid (R.out.keep hb)
  replace K34 := Lib.hid (K34.out.below hb)
  clear CK d0 d1 d2 d3 d4
  clear hb
  have d0 : w45.cell? ⟨g34, 0, none⟩ = some (.slice none 0 0) := K34.out.cell 0
  have d1 : w45.cell? ⟨g34, 1, none⟩ = some (.slice (some ⟨g23, 0, none⟩) 1 1) := K34.out.cell 1
  have d2 : w45.cell? ⟨g34, 2, none⟩ = some (.bool s32) := K34.out.cell 2
  have d3 : w45.cell? ⟨g34, 3, none⟩ = some (.slice A32 n32 c32) := K34.out.cell 3
  have d4 : w45.cell? ⟨g34, 4, none⟩ = some (.slice (some ⟨g33, 0, none⟩) 2 2) := K34.out.cell 4
  have CK := Lib.hid (ckl (c := 2) I2.out R.out IM2.out RM.out (by decide) (by rw [sz2]; decide) sy4)
  rw [RV.out] at CK
  go_wp2_with fail
  refine (CK.out).mono ?_
  rintro e w46 ⟨rfl, hb⟩
  replace HB := Lib.hid (HB.out.trans (hb.mono HB.out.size))
  replace I0 := Lib.hid (I0.out.below hb)
  replace I1 := Lib.hid (I1.out.below hb)
  replace I2 := Lib.hid (I2.out.below hb)
  replace P := Lib.hid (P.out.keep hb)
  replace K21 := Lib.hid (K21.out.below hb)
  replace R := Lib.hid (R.out.keep hb)
  replace K34 := Lib.hid (K34.out.below hb)
  clear CK d0 d1 d2 d3 d4
  clear hb
  have d0 : w46.cell? ⟨g34, 0, none⟩ = some (.slice none 0 0) := K34.out.cell 0
  have d1 : w46.cell? ⟨g34, 1, none⟩ = some (.slice (some ⟨g23, 0, none⟩) 1 1) := K34.out.cell 1
  have d2 : w46.cell? ⟨g34, 2, none⟩ = some (.bool s32) := K34.out.cell 2
  have d3 : w46.cell? ⟨g34, 3, none⟩ = some (.slice A32 n32 c32) := K34.out.cell 3
  have d4 : w46.cell? ⟨g34, 4, none⟩ = some (.slice (some ⟨g33, 0, none⟩) 2 2) := K34.out.cell 4
  have CK := Lib.hid (ckl (c := 2) I1.out R.out IM1.out RM.out (by decide) (by rw [sz2]; decide) sy5)
  rw [RV.out] at CK
  go_wp2_with fail
  refine (CK.out).mono ?_
  rintro e w47 ⟨rfl, hb⟩
  replace HB := Lib.hid (HB.out.trans (hb.mono HB.out.size))
  replace I0 := Lib.hid (I0.out.below hb)
  replace I1 := Lib.hid (I1.out.below hb)
  replace I2 := Lib.hid (I2.out.below hb)
  replace P := Lib.hid (P.out.keep hb)
  replace K21 := Lib.hid (K21.out.below hb)
  replace R := Lib.hid (R.out.keep hb)
  replace K34 := Lib.hid (K34.out.below hb)
  clear CK d0 d1 d2 d3 d4
  clear hb
  have d0 : w47.cell? ⟨g21, 0, none⟩ = some (.slice (some ⟨g20, 0, none⟩) 3 3) := K21.out.cell 0
  have d1 : w47.cell? ⟨g21, 1, none⟩ = some (.slice none 0 0) := K21.out.cell 1
  have d2 : w47.cell? ⟨g21, 2, none⟩ = some (.bool false) := K21.out.cell 2
  have d3 : w47.cell? ⟨g21, 3, none⟩ = some (.slice none 0 0) := K21.out.cell 3
  have d4 : w47.cell? ⟨g21, 4, none⟩ = some (.slice none 0 0) := K21.out.cell 4
  have CK := Lib.hid (szl P.out PM.out sz1 (by decide))
  rw [PV.out] at CK
  go_wp2_with fail
  refine (CK.out).mono ?_
  rintro e w48 ⟨rfl, hb⟩
  replace HB := Lib.hid (HB.out.trans (hb.mono HB.out.size))
  replace I0 := Lib.hid (I0.out.below hb)
  replace I1 := Lib.hid (I1.out.below hb)
  replace I2 := Lib.hid (I2.out.below hb)
  replace P := Lib.hid (P.out.keep hb)
  replace K21 := Lib.hid (K21.out.below hb)
  replace R := Lib.hid (R.out.keep hb)
  replace K34 := Lib.hid (K34.out.below hb)
  clear CK d0 d1 d2 d3 d4
  clear hb
  have d0 : w48.cell? ⟨g34, 0, none⟩ = some (.slice none 0 0) := K34.out.cell 0
  have d1 : w48.cell? ⟨g34, 1, none⟩ = some (.slice (some ⟨g23, 0, none⟩) 1 1) := K34.out.cell 1
  have d2 : w48.cell? ⟨g34, 2, none⟩ = some (.bool s32) := K34.out.cell 2
  have d3 : w48.cell? ⟨g34, 3, none⟩ = some (.slice A32 n32 c32) := K34.out.cell 3
  have d4 : w48.cell? ⟨g34, 4, none⟩ = some (.slice (some ⟨g33, 0, none⟩) 2 2) := K34.out.cell 4
  have CK := Lib.hid (szl R.out RM.out sz2 (by decide))
  rw [RV.out] at CK
  go_wp2_with fail
  refine (CK.out).mono ?_
  rintro e w49 ⟨rfl, hb⟩
  replace HB := Lib.hid (HB.out.trans (hb.mono HB.out.size))
  replace I0 := Lib.hid (I0.out.below hb)
  replace I1 := Lib.hid (I1.out.below hb)
  replace I2 := Lib.hid (I2.out.below hb)
  replace P := Lib.hid (P.out.keep hb)
  replace K21 := Lib.hid (K21.out.below hb)
  replace R := Lib.hid (R.out.keep hb)
  replace K34 := Lib.hid (K34.out.below hb)
  clear CK d0 d1 d2 d3 d4
  clear hb
  go_wp2
  go_ret
  exact ⟨rfl, HB.out⟩
end Go.Proofs.Ythfolccofjaknaa
