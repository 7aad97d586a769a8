/- The check of the chapter's example: it holds. -/
import Derived.Test.YtcocdhndhlegiaaShb
import Derived.Test.YtcocdhndhlegiaaSwi
import Derived.Test.YtcocdhndhlegiaaSsm
import Derived.Test.YtcocdhndhlegiaaSme
import Derived.Test.YtcocdhndhlegiaaSeq
import Derived.Test.YtcocdhndhlegiaaSro
import Derived.Test.YtcocdhndhlegiaaSrc
import Derived.Test.YtcocdhndhlegiaaMi2
namespace Go.Proofs.Ytcocdhndhlegiaa
open Go.ChangeShapes Go.WideShapes Go.ChangeAt Go.RowKit Go.ChangeMaps

theorem Vls.blk {w : World} {g : Nat} {t : TypeId} {R : List V3} {n : Nat} (hn : R.length = n) (h : Blk w g t (R.flatMap V3.cells).toArray) : Vls w (some ⟨g, 0, none⟩) n R := by
  refine ⟨by rw [flat_len V3.cells 3 (fun _ => rfl), hn], fun _ => ⟨g, 0, rfl, h.lt, fun j v hj => ?_⟩⟩
  rw [h.cell, Nat.zero_add]
  simpa using hj
theorem Sds.blk {w : World} {g : Nat} {t : TypeId} {R : List Sd} {n : Nat} (hn : R.length = n) (h : Blk w g t (R.flatMap Sd.cells).toArray) : Sds w (some ⟨g, 0, none⟩) n R := by
  refine ⟨by rw [flat_len Sd.cells 6 (fun _ => rfl), hn], fun _ => ⟨g, 0, rfl, h.lt, fun j v hj => ?_⟩⟩
  rw [h.cell, Nat.zero_add]
  simpa using hj
set_option maxRecDepth 100000 in
set_option maxHeartbeats 4000000 in
theorem awake_any (w : World) : Calls Try.prog 8 #[] w fun e w' => e = .returned (.bool true) ∧ Below w.heap.size w w' := by
  have CI := Lib.hid (fun n W => integer_any n W)
  have CT := Lib.hid (fun t W => text_any t W)
  unfold V3.agg at CI CT
  dsimp only at CI CT
  go_enter Try.func8, Try.ntmps8
  go_wp2_with fail
  refine (CI.out 3 _).mono ?_
  rintro e w1 ⟨rfl, hb1⟩
  have HBw1 : Below w.heap.size w w1 := hb1
  clear hb1
  go_wp2_with fail
  obtain ⟨W1, hW1⟩ : ∃ W, W = w1.alloc (.cells #[.int .i64 1, .int .i64 3, .string ⟨#[]⟩, .int .i64 0, .int .i64 0, .string ⟨#[]⟩] 47) := ⟨_, rfl⟩
  have V1 : Vls W1 (some ⟨w1.heap.size, 0, none⟩) 2 [⟨1, 3, ⟨#[]⟩⟩, ⟨0, 0, ⟨#[]⟩⟩] := Vls.blk (t := 47) rfl (by rw [hW1]; exact Blk.new _ _ _)
  rw [← hW1]
  have HBW1 : Below w.heap.size w W1 := by rw [hW1]; exact HBw1.alloc HBw1.size _
  clear hW1
  refine (Row_any 1 _ 2 _ _ _ rfl W1 V1 (by decide)).mono ?_
  rintro e w2 ⟨A2, c2, rfl, S2, hb2⟩
  have HBw2 : Below w.heap.size w w2 := HBW1.trans (hb2.mono HBW1.size)
  clear hb2 V1
  go_wp2_with fail
  refine (CI.out 5 _).mono ?_
  rintro e w3 ⟨rfl, hb3⟩
  have HBw3 : Below w.heap.size w w3 := HBw2.trans (hb3.mono HBw2.size)
  have S3 := S2.below hb3
  clear hb3 S2
  go_wp2_with fail
  refine (CT.out _ _).mono ?_
  rintro e w4 ⟨rfl, hb4⟩
  have HBw4 : Below w.heap.size w w4 := HBw3.trans (hb4.mono HBw3.size)
  have S4 := S3.below hb4
  clear hb4 S3
  go_wp2_with fail
  obtain ⟨W5, hW5⟩ : ∃ W, W = w4.alloc (.cells #[.int .i64 1, .int .i64 5, .string ⟨#[]⟩, .int .i64 2, .int .i64 0, .string ⟨#[98]⟩] 47) := ⟨_, rfl⟩
  have V5 : Vls W5 (some ⟨w4.heap.size, 0, none⟩) 2 [⟨1, 5, ⟨#[]⟩⟩, ⟨2, 0, ⟨#[98]⟩⟩] := Vls.blk (t := 47) rfl (by rw [hW5]; exact Blk.new _ _ _)
  have S5 : Sds W5 A2 2 (List.map rowS [⟨1, 3, ⟨#[]⟩⟩, ⟨0, 0, ⟨#[]⟩⟩]) := by rw [hW5]; exact S4.below ((Below.refl _ _).alloc (Nat.le_refl _) _)
  rw [← hW5]
  have HBW5 : Below w.heap.size w W5 := by rw [hW5]; exact HBw4.alloc HBw4.size _
  clear hW5
  clear S4
  refine (Row_any 1 _ 2 _ _ _ rfl W5 V5 (by decide)).mono ?_
  rintro e w6 ⟨A6, c6, rfl, S6, hb6⟩
  have HBw6 : Below w.heap.size w w6 := HBW5.trans (hb6.mono HBW5.size)
  have T6 := S5.below hb6
  clear hb6 V5 S5
  go_wp2_with fail
  refine (Hull_both 1 1 _ 2 _ _ _ _ _ _ rfl w6 T6 S6 (by decide) (by decide)).mono ?_
  rintro e w7 ⟨A7, c7, rfl, S7, hb7⟩
  have HBw7 : Below w.heap.size w w7 := HBw6.trans (hb7.mono HBw6.size)
  clear hb7 S6 T6
  obtain ⟨H, hH⟩ : ∃ H, H = hullL (List.map rowS [⟨1, 3, ⟨#[]⟩⟩, ⟨0, 0, ⟨#[]⟩⟩]) (List.map rowS [⟨1, 5, ⟨#[]⟩⟩, ⟨2, 0, ⟨#[98]⟩⟩]) := ⟨_, rfl⟩
  rw [← hH] at S7
  have HH := Lib.hid hH
  have HS7 := Lib.hid S7
  have HB7 := Lib.hid HBw7
  clear S7 hH HBw1 HBW1 HBw2 HBw3 HBw4 HBW5 HBw6 HBw7
  go_wp2_with fail
  have EQ : Hid (sameB 1 1 H [⟨false, true, 3, 5, ⟨#[]⟩, ⟨#[]⟩⟩, ⟨true, true, 0, 0, ⟨#[98]⟩, ⟨#[98]⟩⟩] = true) := Lib.hid (by rw [HH.out]; decide +kernel)
  have HX1 := Lib.hid (show Blk (w7.alloc (.cells #[.int .i64 1, .slice A7 2 c7] 33)) w7.heap.size 33 #[.int .i64 1, .slice A7 2 c7] from Blk.new _ _ _)
  have HB8 := Lib.hid (show Below w.heap.size w (w7.alloc (.cells #[.int .i64 1, .slice A7 2 c7] 33)) from HB7.out.alloc HB7.out.size _)
  have HS8 := Lib.hid (show Sds (w7.alloc (.cells #[.int .i64 1, .slice A7 2 c7] 33)) A7 2 H from HS7.out.below ((Below.refl _ _).alloc (Nat.le_refl _) _))
  obtain ⟨W8, hW8⟩ : ∃ W, W = w7.alloc (.cells #[.int .i64 1, .slice A7 2 c7] 33) := ⟨_, rfl⟩
  rw [← hW8] at HX1 HB8 HS8
  rw [← hW8]
  clear hW8 HS7 HB7
  have hb : Below W8.heap.size W8 W8.drew := below_drew (Below.refl _ _)
  refine wp_region_mix 53 (fun w' => Below W8.heap.size W8 w') (by kernel_rfl) (by decide) ?_
  refine wpM_take (i := 0) (oi := ⟨some 11, _, _, _, _, _⟩) (v := ?_) rfl (by decide +kernel) (by decide +kernel) (by decide +kernel) (fun _ _ _ h => h) (Or.inl ⟨by rfl, ?_⟩) hb ?_
  case refine_2 =>
    intro w' hSw
    have s1 : w'.cell? ⟨w7.heap.size, 0, none⟩ = some (.int .i64 1) := keepcell hSw (HX1.out.cell 0)
    have s2 : w'.cell? ⟨w7.heap.size, 1, none⟩ = some (.slice A7 2 c7) := keepcell hSw (HX1.out.cell 1)
    go_simp
    try (with_reducible rfl)
  try simp only [Act.put, List.setIfInBounds_toArray, List.set_cons_zero, List.set_cons_succ]
  refine wpM_take (i := 2) (oi := ⟨some 13, _, _, _, _, _⟩) (v := ?_) rfl (by decide +kernel) (by decide +kernel) (by decide +kernel) (fun _ _ _ h => h) (Or.inl ⟨by rfl, ?_⟩) hb ?_
  case refine_2 =>
    intro w' hSw
    have s1 : w'.cell? ⟨w7.heap.size, 0, none⟩ = some (.int .i64 1) := keepcell hSw (HX1.out.cell 0)
    have s2 : w'.cell? ⟨w7.heap.size, 1, none⟩ = some (.slice A7 2 c7) := keepcell hSw (HX1.out.cell 1)
    go_simp
    try (with_reducible rfl)
  try simp only [Act.put, List.setIfInBounds_toArray, List.set_cons_zero, List.set_cons_succ]
  refine wpM_take (i := 3) (oi := ⟨some 14, _, _, _, _, _⟩) (v := ?_) rfl (by decide +kernel) (by decide +kernel) (by decide +kernel) (fun _ _ _ h => h) (Or.inl ⟨by rfl, ?_⟩) hb ?_
  case refine_2 =>
    intro w' hSw
    have s1 : w'.cell? ⟨w7.heap.size, 0, none⟩ = some (.int .i64 1) := keepcell hSw (HX1.out.cell 0)
    have s2 : w'.cell? ⟨w7.heap.size, 1, none⟩ = some (.slice A7 2 c7) := keepcell hSw (HX1.out.cell 1)
    go_simp
    try (with_reducible rfl)
  try simp only [Act.put, List.setIfInBounds_toArray, List.set_cons_zero, List.set_cons_succ]
  generalize W8.drew = W9 at hb ⊢
  apply cut4 (R := fun w' => Below W8.heap.size W8 w')
  case h1 =>
    intro FIN
    refine wpM_both (i := 1) (j := 4) (oi := ⟨some 12, _, _, _, _, _⟩) (oj := ⟨some 15, _, _, _, _, _⟩) rfl rfl (by decide +kernel) (by decide) (by decide) (fun K hK => ?_) (fun K hK => ?_)
    · go_simp
      refine (back_any 1 A7 2 c7 H W9 (HS8.out.below hb) (by decide)).mono ?_
      rintro e x11 ⟨A9, c9, rfl, S9, h11⟩
      have b11 : Below W8.heap.size W8 x11 := hb.trans (h11.mono hb.size)
      clear h11
      refine hK.out _ _ b11 ?_
      clear hK K
      try simp only [Act.put, List.setIfInBounds_toArray, List.set_cons_zero, List.set_cons_succ]
      refine wpM_step (i := 4) (o := ⟨some 15, _, _, _, _, _⟩) rfl (by decide +kernel) (by decide) (fun K hK => ?_)
      go_simp
      obtain ⟨x12, e12⟩ : ∃ W, W = x11.alloc (.cells #[.bool false, .bool true, .int .i64 3, .int .i64 5, .string ⟨#[]⟩, .string ⟨#[]⟩, .bool true, .bool true, .int .i64 0, .int .i64 0, .string ⟨#[98]⟩, .string ⟨#[98]⟩] 51) := ⟨_, rfl⟩
      have b12 : Below W8.heap.size W8 x12 := by rw [e12]; exact b11.alloc b11.size _
      have f12 : Sds x12 (some ⟨x11.heap.size, 0, none⟩) 2 [⟨false, true, 3, 5, ⟨#[]⟩, ⟨#[]⟩⟩, ⟨true, true, 0, 0, ⟨#[98]⟩, ⟨#[98]⟩⟩] := Sds.blk (t := 51) rfl (by rw [e12]; exact Blk.new _ _ _)
      have T9 : Sds x12 A9 2 H := by rw [e12]; exact S9.below ((Below.refl _ _).alloc (Nat.le_refl _) _)
      rw [← e12]
      clear e12
      refine hK.out _ _ b12 ?_
      clear hK K
      try simp only [Act.put, List.setIfInBounds_toArray, List.set_cons_zero, List.set_cons_succ]
      refine wpM_take (i := 5) (oi := ⟨some 16, _, _, _, _, _⟩) (v := ?_) rfl (by decide +kernel) (by decide +kernel) (by decide +kernel) (fun _ _ _ h => h) (Or.inl ⟨by rfl, ?_⟩) b12 ?_
      case refine_2 =>
        intro w' hSw
        have s1 : w'.cell? ⟨w7.heap.size, 0, none⟩ = some (.int .i64 1) := keepcell hSw (HX1.out.cell 0)
        have s2 : w'.cell? ⟨w7.heap.size, 1, none⟩ = some (.slice A7 2 c7) := keepcell hSw (HX1.out.cell 1)
        go_simp
        try (with_reducible rfl)
      try simp only [Act.put, List.setIfInBounds_toArray, List.set_cons_zero, List.set_cons_succ]
      refine wpM_step (i := 6) (o := ⟨some 17, _, _, _, _, _⟩) rfl (by decide +kernel) (by decide) (fun K hK => ?_)
      go_simp
      refine (Same_any 1 1 _ 2 _ _ _ 2 _ _ x12 T9 f12 (by decide) (by decide)).mono ?_
      rintro e x13 ⟨rfl, h13⟩
      have b13 : Below W8.heap.size W8 x13 := b12.trans (h13.mono b12.size)
      clear h13
      rw [EQ.out]
      refine hK.out _ _ b13 ?_
      clear hK K
      try simp only [Act.put, List.setIfInBounds_toArray, List.set_cons_zero, List.set_cons_succ]
      refine wpM_listed (l := Array.replicate 7 true ++ Array.replicate 47 false) (by decide +kernel) ?_
      generalize Value.agg #[.int .i64 1, .slice A9 2 c9] = x
      generalize Value.agg #[.int .i64 1, .slice (some ⟨x11.heap.size, 0, none⟩) 2 2] = z
      generalize Value.slice (some ⟨x11.heap.size, 0, none⟩) 2 2 = y
      exact FIN x13 x y z b13
    · go_simp
      obtain ⟨x14, e14⟩ : ∃ W, W = W9.alloc (.cells #[.bool false, .bool true, .int .i64 3, .int .i64 5, .string ⟨#[]⟩, .string ⟨#[]⟩, .bool true, .bool true, .int .i64 0, .int .i64 0, .string ⟨#[98]⟩, .string ⟨#[98]⟩] 51) := ⟨_, rfl⟩
      have b14 : Below W8.heap.size W8 x14 := by rw [e14]; exact hb.alloc hb.size _
      have f14 : Sds x14 (some ⟨W9.heap.size, 0, none⟩) 2 [⟨false, true, 3, 5, ⟨#[]⟩, ⟨#[]⟩⟩, ⟨true, true, 0, 0, ⟨#[98]⟩, ⟨#[98]⟩⟩] := Sds.blk (t := 51) rfl (by rw [e14]; exact Blk.new _ _ _)
      rw [← e14]
      clear e14
      refine hK.out _ _ b14 ?_
      clear hK K
      try simp only [Act.put, List.setIfInBounds_toArray, List.set_cons_zero, List.set_cons_succ]
      refine wpM_take (i := 5) (oi := ⟨some 16, _, _, _, _, _⟩) (v := ?_) rfl (by decide +kernel) (by decide +kernel) (by decide +kernel) (fun _ _ _ h => h) (Or.inl ⟨by rfl, ?_⟩) b14 ?_
      case refine_2 =>
        intro w' hSw
        have s1 : w'.cell? ⟨w7.heap.size, 0, none⟩ = some (.int .i64 1) := keepcell hSw (HX1.out.cell 0)
        have s2 : w'.cell? ⟨w7.heap.size, 1, none⟩ = some (.slice A7 2 c7) := keepcell hSw (HX1.out.cell 1)
        go_simp
        try (with_reducible rfl)
      try simp only [Act.put, List.setIfInBounds_toArray, List.set_cons_zero, List.set_cons_succ]
      refine wpM_step (i := 1) (o := ⟨some 12, _, _, _, _, _⟩) rfl (by decide +kernel) (by decide) (fun K hK => ?_)
      go_simp
      refine (back_any 1 A7 2 c7 H x14 (HS8.out.below b14) (by decide)).mono ?_
      rintro e x15 ⟨A9, c9, rfl, S9, h15⟩
      have b15 : Below W8.heap.size W8 x15 := b14.trans (h15.mono b14.size)
      have T9 := f14.below h15
      clear h15
      refine hK.out _ _ b15 ?_
      clear hK K
      try simp only [Act.put, List.setIfInBounds_toArray, List.set_cons_zero, List.set_cons_succ]
      refine wpM_step (i := 6) (o := ⟨some 17, _, _, _, _, _⟩) rfl (by decide +kernel) (by decide) (fun K hK => ?_)
      go_simp
      refine (Same_any 1 1 _ 2 _ _ _ 2 _ _ x15 S9 T9 (by decide) (by decide)).mono ?_
      rintro e x16 ⟨rfl, h16⟩
      have b16 : Below W8.heap.size W8 x16 := b15.trans (h16.mono b15.size)
      clear h16
      rw [EQ.out]
      refine hK.out _ _ b16 ?_
      clear hK K
      try simp only [Act.put, List.setIfInBounds_toArray, List.set_cons_zero, List.set_cons_succ]
      refine wpM_listed (l := Array.replicate 7 true ++ Array.replicate 47 false) (by decide +kernel) ?_
      generalize Value.agg #[.int .i64 1, .slice A9 2 c9] = x
      generalize Value.agg #[.int .i64 1, .slice (some ⟨W9.heap.size, 0, none⟩) 2 2] = z
      generalize Value.slice (some ⟨W9.heap.size, 0, none⟩) 2 2 = y
      exact FIN x16 x y z b16
  case h2 =>
    intro X0 x y z b0
    refine wpM_take (i := 7) (oi := ⟨some 18, _, _, _, _, _⟩) (v := ?_) rfl (by decide +kernel) (by decide +kernel) (by decide +kernel) (fun _ _ _ h => h) (Or.inl ⟨by rfl, ?_⟩) b0 ?_
    case refine_2 =>
      intro w' hSw
      have s1 : w'.cell? ⟨w7.heap.size, 0, none⟩ = some (.int .i64 1) := keepcell hSw (HX1.out.cell 0)
      have s2 : w'.cell? ⟨w7.heap.size, 1, none⟩ = some (.slice A7 2 c7) := keepcell hSw (HX1.out.cell 1)
      go_simp
      try (with_reducible rfl)
    try simp only [Act.put, List.setIfInBounds_toArray, List.set_cons_zero, List.set_cons_succ]
    refine wpM_take (i := 8) (oi := ⟨some 19, _, _, _, _, _⟩) (v := ?_) rfl (by decide +kernel) (by decide +kernel) (by decide +kernel) (fun _ _ _ h => h) (Or.inl ⟨by rfl, ?_⟩) b0 ?_
    case refine_2 =>
      intro w' hSw
      have s1 : w'.cell? ⟨w7.heap.size, 0, none⟩ = some (.int .i64 1) := keepcell hSw (HX1.out.cell 0)
      have s2 : w'.cell? ⟨w7.heap.size, 1, none⟩ = some (.slice A7 2 c7) := keepcell hSw (HX1.out.cell 1)
      go_simp
      try (with_reducible rfl)
    try simp only [Act.put, List.setIfInBounds_toArray, List.set_cons_zero, List.set_cons_succ]
    refine wpM_step (i := 9) (o := ⟨some 20, _, _, _, _, _⟩) rfl (by decide +kernel) (by decide) (fun K hK => ?_)
    go_simp
    refine (CI.out 4 _).mono ?_
    rintro e x17 ⟨rfl, h17⟩
    have b17 : Below W8.heap.size W8 x17 := b0.trans (h17.mono b0.size)
    clear h17
    refine hK.out _ _ b17 ?_
    clear hK K
    try simp only [Act.put, List.setIfInBounds_toArray, List.set_cons_zero, List.set_cons_succ]
    refine wpM_step (i := 10) (o := ⟨some 21, _, _, _, _, _⟩) rfl (by decide +kernel) (by decide) (fun K hK => ?_)
    go_simp
    refine (CT.out _ _).mono ?_
    rintro e x18 ⟨rfl, h18⟩
    have b18 : Below W8.heap.size W8 x18 := b17.trans (h18.mono b17.size)
    clear h18
    refine hK.out _ _ b18 ?_
    clear hK K
    try simp only [Act.put, List.setIfInBounds_toArray, List.set_cons_zero, List.set_cons_succ]
    refine wpM_step (i := 11) (o := ⟨some 22, _, _, _, _, _⟩) rfl (by decide +kernel) (by decide) (fun K hK => ?_)
    go_simp
    obtain ⟨x19, e19⟩ : ∃ W, W = x18.alloc (.cells #[.int .i64 1, .int .i64 4, .string ⟨#[]⟩, .int .i64 2, .int .i64 0, .string ⟨#[98]⟩] 47) := ⟨_, rfl⟩
    have b19 : Below W8.heap.size W8 x19 := by rw [e19]; exact b18.alloc b18.size _
    have f19 : Vls x19 (some ⟨x18.heap.size, 0, none⟩) 2 [⟨1, 4, ⟨#[]⟩⟩, ⟨2, 0, ⟨#[98]⟩⟩] := Vls.blk (t := 47) rfl (by rw [e19]; exact Blk.new _ _ _)
    rw [← e19]
    clear e19
    refine hK.out _ _ b19 ?_
    clear hK K
    try simp only [Act.put, List.setIfInBounds_toArray, List.set_cons_zero, List.set_cons_succ]
    refine wpM_step (i := 12) (o := ⟨some 23, _, _, _, _, _⟩) rfl (by decide +kernel) (by decide) (fun K hK => ?_)
    go_simp
    refine (Row_any 1 _ 2 _ _ _ rfl _ f19 (by decide)).mono ?_
    rintro e x20 ⟨A20, c20, rfl, S20, h20⟩
    have b20 : Below W8.heap.size W8 x20 := b19.trans (h20.mono b19.size)
    clear h20
    refine hK.out _ _ b20 ?_
    clear hK K
    try simp only [Act.put, List.setIfInBounds_toArray, List.set_cons_zero, List.set_cons_succ]
    refine wpM_step (i := 13) (o := ⟨some 24, _, _, _, _, _⟩) rfl (by decide +kernel) (by decide) (fun K hK => ?_)
    go_simp
    refine (Meet_any 1 1 _ 2 _ _ _ 2 _ _ _ (HS8.out.below b20) S20 (by decide) (by decide)).mono ?_
    rintro e x21 ⟨rfl, h21⟩
    have b21 : Below W8.heap.size W8 x21 := b20.trans (h21.mono b20.size)
    clear h21
    rw [show meetB 1 1 H (List.map rowS [⟨1, 4, ⟨#[]⟩⟩, ⟨2, 0, ⟨#[98]⟩⟩]) = true by rw [HH.out]; decide +kernel]
    refine hK.out _ _ b21 ?_
    clear hK K
    try simp only [Act.put, List.setIfInBounds_toArray, List.set_cons_zero, List.set_cons_succ]
    refine wpM_take (i := 14) (oi := ⟨some 25, _, _, _, _, _⟩) (v := ?_) rfl (by decide +kernel) (by decide +kernel) (by decide +kernel) (fun _ _ _ h => h) (Or.inl ⟨by rfl, ?_⟩) b21 ?_
    case refine_2 =>
      intro w' hSw
      have s1 : w'.cell? ⟨w7.heap.size, 0, none⟩ = some (.int .i64 1) := keepcell hSw (HX1.out.cell 0)
      have s2 : w'.cell? ⟨w7.heap.size, 1, none⟩ = some (.slice A7 2 c7) := keepcell hSw (HX1.out.cell 1)
      go_simp
      try (with_reducible rfl)
    try simp only [Act.put, List.setIfInBounds_toArray, List.set_cons_zero, List.set_cons_succ]
    refine wpM_take (i := 15) (oi := ⟨some 26, _, _, _, _, _⟩) (v := ?_) rfl (by decide +kernel) (by decide +kernel) (by decide +kernel) (fun _ _ _ h => h) (Or.inl ⟨by rfl, ?_⟩) b21 ?_
    case refine_2 =>
      intro w' hSw
      have s1 : w'.cell? ⟨w7.heap.size, 0, none⟩ = some (.int .i64 1) := keepcell hSw (HX1.out.cell 0)
      have s2 : w'.cell? ⟨w7.heap.size, 1, none⟩ = some (.slice A7 2 c7) := keepcell hSw (HX1.out.cell 1)
      go_simp
      try (with_reducible rfl)
    try simp only [Act.put, List.setIfInBounds_toArray, List.set_cons_zero, List.set_cons_succ]
    refine wpM_take (i := 16) (oi := ⟨some 27, _, _, _, _, _⟩) (v := ?_) rfl (by decide +kernel) (by decide +kernel) (by decide +kernel) (fun _ _ _ h => h) (Or.inl ⟨by rfl, ?_⟩) b21 ?_
    case refine_2 =>
      intro w' hSw
      have s1 : w'.cell? ⟨w7.heap.size, 0, none⟩ = some (.int .i64 1) := keepcell hSw (HX1.out.cell 0)
      have s2 : w'.cell? ⟨w7.heap.size, 1, none⟩ = some (.slice A7 2 c7) := keepcell hSw (HX1.out.cell 1)
      go_simp
      try (with_reducible rfl)
    try simp only [Act.put, List.setIfInBounds_toArray, List.set_cons_zero, List.set_cons_succ]
    refine wpM_step (i := 17) (o := ⟨some 28, _, _, _, _, _⟩) rfl (by decide +kernel) (by decide) (fun K hK => ?_)
    go_simp
    refine (CI.out 4 _).mono ?_
    rintro e x22 ⟨rfl, h22⟩
    have b22 : Below W8.heap.size W8 x22 := b21.trans (h22.mono b21.size)
    clear h22
    refine hK.out _ _ b22 ?_
    clear hK K
    try simp only [Act.put, List.setIfInBounds_toArray, List.set_cons_zero, List.set_cons_succ]
    refine wpM_step (i := 18) (o := ⟨some 29, _, _, _, _, _⟩) rfl (by decide +kernel) (by decide) (fun K hK => ?_)
    go_simp
    refine (CT.out _ _).mono ?_
    rintro e x23 ⟨rfl, h23⟩
    have b23 : Below W8.heap.size W8 x23 := b22.trans (h23.mono b22.size)
    clear h23
    refine hK.out _ _ b23 ?_
    clear hK K
    try simp only [Act.put, List.setIfInBounds_toArray, List.set_cons_zero, List.set_cons_succ]
    refine wpM_step (i := 19) (o := ⟨some 30, _, _, _, _, _⟩) rfl (by decide +kernel) (by decide) (fun K hK => ?_)
    go_simp
    obtain ⟨x24, e24⟩ : ∃ W, W = x23.alloc (.cells #[.int .i64 1, .int .i64 4, .string ⟨#[]⟩, .int .i64 2, .int .i64 0, .string ⟨#[97]⟩] 47) := ⟨_, rfl⟩
    have b24 : Below W8.heap.size W8 x24 := by rw [e24]; exact b23.alloc b23.size _
    have f24 : Vls x24 (some ⟨x23.heap.size, 0, none⟩) 2 [⟨1, 4, ⟨#[]⟩⟩, ⟨2, 0, ⟨#[97]⟩⟩] := Vls.blk (t := 47) rfl (by rw [e24]; exact Blk.new _ _ _)
    rw [← e24]
    clear e24
    refine hK.out _ _ b24 ?_
    clear hK K
    try simp only [Act.put, List.setIfInBounds_toArray, List.set_cons_zero, List.set_cons_succ]
    refine wpM_step (i := 20) (o := ⟨some 31, _, _, _, _, _⟩) rfl (by decide +kernel) (by decide) (fun K hK => ?_)
    go_simp
    refine (Row_any 1 _ 2 _ _ _ rfl _ f24 (by decide)).mono ?_
    rintro e x25 ⟨A25, c25, rfl, S25, h25⟩
    have b25 : Below W8.heap.size W8 x25 := b24.trans (h25.mono b24.size)
    clear h25
    refine hK.out _ _ b25 ?_
    clear hK K
    try simp only [Act.put, List.setIfInBounds_toArray, List.set_cons_zero, List.set_cons_succ]
    refine wpM_step (i := 21) (o := ⟨some 32, _, _, _, _, _⟩) rfl (by decide +kernel) (by decide) (fun K hK => ?_)
    go_simp
    refine (Meet_any 1 1 _ 2 _ _ _ 2 _ _ _ (HS8.out.below b25) S25 (by decide) (by decide)).mono ?_
    rintro e x26 ⟨rfl, h26⟩
    have b26 : Below W8.heap.size W8 x26 := b25.trans (h26.mono b25.size)
    clear h26
    rw [show meetB 1 1 H (List.map rowS [⟨1, 4, ⟨#[]⟩⟩, ⟨2, 0, ⟨#[97]⟩⟩]) = false by rw [HH.out]; decide +kernel]
    refine hK.out _ _ b26 ?_
    clear hK K
    try simp only [Act.put, List.setIfInBounds_toArray, List.set_cons_zero, List.set_cons_succ]
    refine wpM_take (i := 22) (oi := ⟨some 33, _, _, _, _, _⟩) (v := ?_) rfl (by decide +kernel) (by decide +kernel) (by decide +kernel) (fun _ _ _ h => h) (Or.inl ⟨by rfl, ?_⟩) b26 ?_
    case refine_2 =>
      intro w' hSw
      have s1 : w'.cell? ⟨w7.heap.size, 0, none⟩ = some (.int .i64 1) := keepcell hSw (HX1.out.cell 0)
      have s2 : w'.cell? ⟨w7.heap.size, 1, none⟩ = some (.slice A7 2 c7) := keepcell hSw (HX1.out.cell 1)
      go_simp
      try (with_reducible rfl)
    try simp only [Act.put, List.setIfInBounds_toArray, List.set_cons_zero, List.set_cons_succ]
    refine wpM_take (i := 23) (oi := ⟨some 34, _, _, _, _, _⟩) (v := ?_) rfl (by decide +kernel) (by decide +kernel) (by decide +kernel) (fun _ _ _ h => h) (Or.inl ⟨by rfl, ?_⟩) b26 ?_
    case refine_2 =>
      intro w' hSw
      have s1 : w'.cell? ⟨w7.heap.size, 0, none⟩ = some (.int .i64 1) := keepcell hSw (HX1.out.cell 0)
      have s2 : w'.cell? ⟨w7.heap.size, 1, none⟩ = some (.slice A7 2 c7) := keepcell hSw (HX1.out.cell 1)
      go_simp
      try (with_reducible rfl)
    try simp only [Act.put, List.setIfInBounds_toArray, List.set_cons_zero, List.set_cons_succ]
    refine wpM_take (i := 24) (oi := ⟨some 35, _, _, _, _, _⟩) (v := ?_) rfl (by decide +kernel) (by decide +kernel) (by decide +kernel) (fun _ _ _ h => h) (Or.inl ⟨by rfl, ?_⟩) b26 ?_
    case refine_2 =>
      intro w' hSw
      have s1 : w'.cell? ⟨w7.heap.size, 0, none⟩ = some (.int .i64 1) := keepcell hSw (HX1.out.cell 0)
      have s2 : w'.cell? ⟨w7.heap.size, 1, none⟩ = some (.slice A7 2 c7) := keepcell hSw (HX1.out.cell 1)
      go_simp
      try (with_reducible rfl)
    try simp only [Act.put, List.setIfInBounds_toArray, List.set_cons_zero, List.set_cons_succ]
    refine wpM_take (i := 25) (oi := ⟨some 36, _, _, _, _, _⟩) (v := ?_) rfl (by decide +kernel) (by decide +kernel) (by decide +kernel) (fun _ _ _ h => h) (Or.inl ⟨by rfl, ?_⟩) b26 ?_
    case refine_2 =>
      intro w' hSw
      have s1 : w'.cell? ⟨w7.heap.size, 0, none⟩ = some (.int .i64 1) := keepcell hSw (HX1.out.cell 0)
      have s2 : w'.cell? ⟨w7.heap.size, 1, none⟩ = some (.slice A7 2 c7) := keepcell hSw (HX1.out.cell 1)
      go_simp
      try (with_reducible rfl)
    try simp only [Act.put, List.setIfInBounds_toArray, List.set_cons_zero, List.set_cons_succ]
    refine wpM_step (i := 26) (o := ⟨some 37, _, _, _, _, _⟩) rfl (by decide +kernel) (by decide) (fun K hK => ?_)
    go_simp
    refine (CI.out 4 _).mono ?_
    rintro e x27 ⟨rfl, h27⟩
    have b27 : Below W8.heap.size W8 x27 := b26.trans (h27.mono b26.size)
    clear h27
    refine hK.out _ _ b27 ?_
    clear hK K
    try simp only [Act.put, List.setIfInBounds_toArray, List.set_cons_zero, List.set_cons_succ]
    refine wpM_step (i := 27) (o := ⟨some 38, _, _, _, _, _⟩) rfl (by decide +kernel) (by decide) (fun K hK => ?_)
    go_simp
    refine (CT.out _ _).mono ?_
    rintro e x28 ⟨rfl, h28⟩
    have b28 : Below W8.heap.size W8 x28 := b27.trans (h28.mono b27.size)
    clear h28
    refine hK.out _ _ b28 ?_
    clear hK K
    try simp only [Act.put, List.setIfInBounds_toArray, List.set_cons_zero, List.set_cons_succ]
    refine wpM_step (i := 28) (o := ⟨some 39, _, _, _, _, _⟩) rfl (by decide +kernel) (by decide) (fun K hK => ?_)
    go_simp
    obtain ⟨x29, e29⟩ : ∃ W, W = x28.alloc (.cells #[.int .i64 1, .int .i64 4, .string ⟨#[]⟩, .int .i64 2, .int .i64 0, .string ⟨#[98]⟩] 47) := ⟨_, rfl⟩
    have b29 : Below W8.heap.size W8 x29 := by rw [e29]; exact b28.alloc b28.size _
    have f29 : Vls x29 (some ⟨x28.heap.size, 0, none⟩) 2 [⟨1, 4, ⟨#[]⟩⟩, ⟨2, 0, ⟨#[98]⟩⟩] := Vls.blk (t := 47) rfl (by rw [e29]; exact Blk.new _ _ _)
    rw [← e29]
    clear e29
    refine hK.out _ _ b29 ?_
    clear hK K
    try simp only [Act.put, List.setIfInBounds_toArray, List.set_cons_zero, List.set_cons_succ]
    refine wpM_step (i := 29) (o := ⟨some 40, _, _, _, _, _⟩) rfl (by decide +kernel) (by decide) (fun K hK => ?_)
    go_simp
    refine (Row_any 0 _ 2 _ _ _ rfl _ f29 (by decide)).mono ?_
    rintro e x30 ⟨A30, c30, rfl, S30, h30⟩
    have b30 : Below W8.heap.size W8 x30 := b29.trans (h30.mono b29.size)
    clear h30
    refine hK.out _ _ b30 ?_
    clear hK K
    try simp only [Act.put, List.setIfInBounds_toArray, List.set_cons_zero, List.set_cons_succ]
    refine wpM_step (i := 30) (o := ⟨some 41, _, _, _, _, _⟩) rfl (by decide +kernel) (by decide) (fun K hK => ?_)
    go_simp
    refine (Meet_any 1 0 _ 2 _ _ _ 2 _ _ _ (HS8.out.below b30) S30 (by decide) (by decide)).mono ?_
    rintro e x31 ⟨rfl, h31⟩
    have b31 : Below W8.heap.size W8 x31 := b30.trans (h31.mono b30.size)
    clear h31
    rw [show meetB 1 0 H (List.map rowS [⟨1, 4, ⟨#[]⟩⟩, ⟨2, 0, ⟨#[98]⟩⟩]) = false by rw [HH.out]; decide +kernel]
    refine hK.out _ _ b31 ?_
    clear hK K
    try simp only [Act.put, List.setIfInBounds_toArray, List.set_cons_zero, List.set_cons_succ]
    refine wpM_take (i := 31) (oi := ⟨some 42, _, _, _, _, _⟩) (v := ?_) rfl (by decide +kernel) (by decide +kernel) (by decide +kernel) (fun _ _ _ h => h) (Or.inl ⟨by rfl, ?_⟩) b31 ?_
    case refine_2 =>
      intro w' hSw
      have s1 : w'.cell? ⟨w7.heap.size, 0, none⟩ = some (.int .i64 1) := keepcell hSw (HX1.out.cell 0)
      have s2 : w'.cell? ⟨w7.heap.size, 1, none⟩ = some (.slice A7 2 c7) := keepcell hSw (HX1.out.cell 1)
      go_simp
      try (with_reducible rfl)
    try simp only [Act.put, List.setIfInBounds_toArray, List.set_cons_zero, List.set_cons_succ]
    refine wpM_take (i := 32) (oi := ⟨some 43, _, _, _, _, _⟩) (v := ?_) rfl (by decide +kernel) (by decide +kernel) (by decide +kernel) (fun _ _ _ h => h) (Or.inl ⟨by rfl, ?_⟩) b31 ?_
    case refine_2 =>
      intro w' hSw
      have s1 : w'.cell? ⟨w7.heap.size, 0, none⟩ = some (.int .i64 1) := keepcell hSw (HX1.out.cell 0)
      have s2 : w'.cell? ⟨w7.heap.size, 1, none⟩ = some (.slice A7 2 c7) := keepcell hSw (HX1.out.cell 1)
      go_simp
      try (with_reducible rfl)
    try simp only [Act.put, List.setIfInBounds_toArray, List.set_cons_zero, List.set_cons_succ]
    refine wpM_take (i := 33) (oi := ⟨some 44, _, _, _, _, _⟩) (v := ?_) rfl (by decide +kernel) (by decide +kernel) (by decide +kernel) (fun _ _ _ h => h) (Or.inl ⟨by rfl, ?_⟩) b31 ?_
    case refine_2 =>
      intro w' hSw
      have s1 : w'.cell? ⟨w7.heap.size, 0, none⟩ = some (.int .i64 1) := keepcell hSw (HX1.out.cell 0)
      have s2 : w'.cell? ⟨w7.heap.size, 1, none⟩ = some (.slice A7 2 c7) := keepcell hSw (HX1.out.cell 1)
      go_simp
      try (with_reducible rfl)
    try simp only [Act.put, List.setIfInBounds_toArray, List.set_cons_zero, List.set_cons_succ]
    refine wpM_take (i := 34) (oi := ⟨some 45, _, _, _, _, _⟩) (v := ?_) rfl (by decide +kernel) (by decide +kernel) (by decide +kernel) (fun _ _ _ h => h) (Or.inl ⟨by rfl, ?_⟩) b31 ?_
    case refine_2 =>
      intro w' hSw
      have s1 : w'.cell? ⟨w7.heap.size, 0, none⟩ = some (.int .i64 1) := keepcell hSw (HX1.out.cell 0)
      have s2 : w'.cell? ⟨w7.heap.size, 1, none⟩ = some (.slice A7 2 c7) := keepcell hSw (HX1.out.cell 1)
      go_simp
      try (with_reducible rfl)
    try simp only [Act.put, List.setIfInBounds_toArray, List.set_cons_zero, List.set_cons_succ]
    refine wpM_take (i := 36) (oi := ⟨some 47, _, _, _, _, _⟩) (v := ?_) rfl (by decide +kernel) (by decide +kernel) (by decide +kernel) (fun _ _ _ h => h) (Or.inl ⟨by rfl, ?_⟩) b31 ?_
    case refine_2 =>
      intro w' hSw
      have s1 : w'.cell? ⟨w7.heap.size, 0, none⟩ = some (.int .i64 1) := keepcell hSw (HX1.out.cell 0)
      have s2 : w'.cell? ⟨w7.heap.size, 1, none⟩ = some (.slice A7 2 c7) := keepcell hSw (HX1.out.cell 1)
      go_simp
      try (with_reducible rfl)
    try simp only [Act.put, List.setIfInBounds_toArray, List.set_cons_zero, List.set_cons_succ]
    refine wpM_step (i := 35) (o := ⟨some 46, _, _, _, _, _⟩) rfl (by decide +kernel) (by decide) (fun K hK => ?_)
    go_simp
    refine (CI.out 4 _).mono ?_
    rintro e x32 ⟨rfl, h32⟩
    have b32 : Below W8.heap.size W8 x32 := b31.trans (h32.mono b31.size)
    clear h32
    refine hK.out _ _ b32 ?_
    clear hK K
    try simp only [Act.put, List.setIfInBounds_toArray, List.set_cons_zero, List.set_cons_succ]
    refine wpM_step (i := 37) (o := ⟨some 48, _, _, _, _, _⟩) rfl (by decide +kernel) (by decide) (fun K hK => ?_)
    go_simp
    obtain ⟨x33, e33⟩ : ∃ W, W = x32.alloc (.cells #[.int .i64 1, .int .i64 4, .string ⟨#[]⟩, .int .i64 0, .int .i64 0, .string ⟨#[]⟩] 47) := ⟨_, rfl⟩
    have b33 : Below W8.heap.size W8 x33 := by rw [e33]; exact b32.alloc b32.size _
    have f33 : Vls x33 (some ⟨x32.heap.size, 0, none⟩) 2 [⟨1, 4, ⟨#[]⟩⟩, ⟨0, 0, ⟨#[]⟩⟩] := Vls.blk (t := 47) rfl (by rw [e33]; exact Blk.new _ _ _)
    rw [← e33]
    clear e33
    refine hK.out _ _ b33 ?_
    clear hK K
    try simp only [Act.put, List.setIfInBounds_toArray, List.set_cons_zero, List.set_cons_succ]
    refine wpM_step (i := 38) (o := ⟨some 49, _, _, _, _, _⟩) rfl (by decide +kernel) (by decide) (fun K hK => ?_)
    go_simp
    refine (Contains_any 1 _ 2 _ _ _ 2 _ _ _ (HS8.out.below b33) f33 (by decide) (by decide)).mono ?_
    rintro e x34 ⟨rfl, h34⟩
    have b34 : Below W8.heap.size W8 x34 := b33.trans (h34.mono b33.size)
    clear h34
    rw [show contB H [⟨1, 4, ⟨#[]⟩⟩, ⟨0, 0, ⟨#[]⟩⟩] = true by rw [HH.out]; decide +kernel]
    refine hK.out _ _ b34 ?_
    clear hK K
    try simp only [Act.put, List.setIfInBounds_toArray, List.set_cons_zero, List.set_cons_succ]
    refine wpM_take (i := 39) (oi := ⟨some 50, _, _, _, _, _⟩) (v := ?_) rfl (by decide +kernel) (by decide +kernel) (by decide +kernel) (fun _ _ _ h => h) (Or.inl ⟨by rfl, ?_⟩) b34 ?_
    case refine_2 =>
      intro w' hSw
      have s1 : w'.cell? ⟨w7.heap.size, 0, none⟩ = some (.int .i64 1) := keepcell hSw (HX1.out.cell 0)
      have s2 : w'.cell? ⟨w7.heap.size, 1, none⟩ = some (.slice A7 2 c7) := keepcell hSw (HX1.out.cell 1)
      go_simp
      try (with_reducible rfl)
    try simp only [Act.put, List.setIfInBounds_toArray, List.set_cons_zero, List.set_cons_succ]
    refine wpM_take (i := 40) (oi := ⟨some 51, _, _, _, _, _⟩) (v := ?_) rfl (by decide +kernel) (by decide +kernel) (by decide +kernel) (fun _ _ _ h => h) (Or.inl ⟨by rfl, ?_⟩) b34 ?_
    case refine_2 =>
      intro w' hSw
      have s1 : w'.cell? ⟨w7.heap.size, 0, none⟩ = some (.int .i64 1) := keepcell hSw (HX1.out.cell 0)
      have s2 : w'.cell? ⟨w7.heap.size, 1, none⟩ = some (.slice A7 2 c7) := keepcell hSw (HX1.out.cell 1)
      go_simp
      try (with_reducible rfl)
    try simp only [Act.put, List.setIfInBounds_toArray, List.set_cons_zero, List.set_cons_succ]
    refine wpM_take (i := 41) (oi := ⟨some 52, _, _, _, _, _⟩) (v := ?_) rfl (by decide +kernel) (by decide +kernel) (by decide +kernel) (fun _ _ _ h => h) (Or.inl ⟨by rfl, ?_⟩) b34 ?_
    case refine_2 =>
      intro w' hSw
      have s1 : w'.cell? ⟨w7.heap.size, 0, none⟩ = some (.int .i64 1) := keepcell hSw (HX1.out.cell 0)
      have s2 : w'.cell? ⟨w7.heap.size, 1, none⟩ = some (.slice A7 2 c7) := keepcell hSw (HX1.out.cell 1)
      go_simp
      try (with_reducible rfl)
    try simp only [Act.put, List.setIfInBounds_toArray, List.set_cons_zero, List.set_cons_succ]
    refine wpM_take (i := 43) (oi := ⟨some 54, _, _, _, _, _⟩) (v := ?_) rfl (by decide +kernel) (by decide +kernel) (by decide +kernel) (fun _ _ _ h => h) (Or.inl ⟨by rfl, ?_⟩) b34 ?_
    case refine_2 =>
      intro w' hSw
      have s1 : w'.cell? ⟨w7.heap.size, 0, none⟩ = some (.int .i64 1) := keepcell hSw (HX1.out.cell 0)
      have s2 : w'.cell? ⟨w7.heap.size, 1, none⟩ = some (.slice A7 2 c7) := keepcell hSw (HX1.out.cell 1)
      go_simp
      try (with_reducible rfl)
    try simp only [Act.put, List.setIfInBounds_toArray, List.set_cons_zero, List.set_cons_succ]
    refine wpM_step (i := 42) (o := ⟨some 53, _, _, _, _, _⟩) rfl (by decide +kernel) (by decide) (fun K hK => ?_)
    go_simp
    refine (CI.out 6 _).mono ?_
    rintro e x35 ⟨rfl, h35⟩
    have b35 : Below W8.heap.size W8 x35 := b34.trans (h35.mono b34.size)
    clear h35
    refine hK.out _ _ b35 ?_
    clear hK K
    try simp only [Act.put, List.setIfInBounds_toArray, List.set_cons_zero, List.set_cons_succ]
    refine wpM_step (i := 44) (o := ⟨some 55, _, _, _, _, _⟩) rfl (by decide +kernel) (by decide) (fun K hK => ?_)
    go_simp
    obtain ⟨x36, e36⟩ : ∃ W, W = x35.alloc (.cells #[.int .i64 1, .int .i64 6, .string ⟨#[]⟩, .int .i64 0, .int .i64 0, .string ⟨#[]⟩] 47) := ⟨_, rfl⟩
    have b36 : Below W8.heap.size W8 x36 := by rw [e36]; exact b35.alloc b35.size _
    have f36 : Vls x36 (some ⟨x35.heap.size, 0, none⟩) 2 [⟨1, 6, ⟨#[]⟩⟩, ⟨0, 0, ⟨#[]⟩⟩] := Vls.blk (t := 47) rfl (by rw [e36]; exact Blk.new _ _ _)
    rw [← e36]
    clear e36
    refine hK.out _ _ b36 ?_
    clear hK K
    try simp only [Act.put, List.setIfInBounds_toArray, List.set_cons_zero, List.set_cons_succ]
    refine wpM_step (i := 45) (o := ⟨some 56, _, _, _, _, _⟩) rfl (by decide +kernel) (by decide) (fun K hK => ?_)
    go_simp
    refine (Contains_any 1 _ 2 _ _ _ 2 _ _ _ (HS8.out.below b36) f36 (by decide) (by decide)).mono ?_
    rintro e x37 ⟨rfl, h37⟩
    have b37 : Below W8.heap.size W8 x37 := b36.trans (h37.mono b36.size)
    clear h37
    rw [show contB H [⟨1, 6, ⟨#[]⟩⟩, ⟨0, 0, ⟨#[]⟩⟩] = false by rw [HH.out]; decide +kernel]
    refine hK.out _ _ b37 ?_
    clear hK K
    try simp only [Act.put, List.setIfInBounds_toArray, List.set_cons_zero, List.set_cons_succ]
    refine wpM_take (i := 46) (oi := ⟨some 57, _, _, _, _, _⟩) (v := ?_) rfl (by decide +kernel) (by decide +kernel) (by decide +kernel) (fun _ _ _ h => h) (Or.inl ⟨by rfl, ?_⟩) b37 ?_
    case refine_2 =>
      intro w' hSw
      have s1 : w'.cell? ⟨w7.heap.size, 0, none⟩ = some (.int .i64 1) := keepcell hSw (HX1.out.cell 0)
      have s2 : w'.cell? ⟨w7.heap.size, 1, none⟩ = some (.slice A7 2 c7) := keepcell hSw (HX1.out.cell 1)
      go_simp
      try (with_reducible rfl)
    try simp only [Act.put, List.setIfInBounds_toArray, List.set_cons_zero, List.set_cons_succ]
    refine wpM_take (i := 47) (oi := ⟨some 58, _, _, _, _, _⟩) (v := ?_) rfl (by decide +kernel) (by decide +kernel) (by decide +kernel) (fun _ _ _ h => h) (Or.inl ⟨by rfl, ?_⟩) b37 ?_
    case refine_2 =>
      intro w' hSw
      have s1 : w'.cell? ⟨w7.heap.size, 0, none⟩ = some (.int .i64 1) := keepcell hSw (HX1.out.cell 0)
      have s2 : w'.cell? ⟨w7.heap.size, 1, none⟩ = some (.slice A7 2 c7) := keepcell hSw (HX1.out.cell 1)
      go_simp
      try (with_reducible rfl)
    try simp only [Act.put, List.setIfInBounds_toArray, List.set_cons_zero, List.set_cons_succ]
    refine wpM_take (i := 48) (oi := ⟨some 59, _, _, _, _, _⟩) (v := ?_) rfl (by decide +kernel) (by decide +kernel) (by decide +kernel) (fun _ _ _ h => h) (Or.inl ⟨by rfl, ?_⟩) b37 ?_
    case refine_2 =>
      intro w' hSw
      have s1 : w'.cell? ⟨w7.heap.size, 0, none⟩ = some (.int .i64 1) := keepcell hSw (HX1.out.cell 0)
      have s2 : w'.cell? ⟨w7.heap.size, 1, none⟩ = some (.slice A7 2 c7) := keepcell hSw (HX1.out.cell 1)
      go_simp
      try (with_reducible rfl)
    try simp only [Act.put, List.setIfInBounds_toArray, List.set_cons_zero, List.set_cons_succ]
    refine wpM_take (i := 49) (oi := ⟨some 60, _, _, _, _, _⟩) (v := ?_) rfl (by decide +kernel) (by decide +kernel) (by decide +kernel) (fun _ _ _ h => h) (Or.inl ⟨by rfl, ?_⟩) b37 ?_
    case refine_2 =>
      intro w' hSw
      have s1 : w'.cell? ⟨w7.heap.size, 0, none⟩ = some (.int .i64 1) := keepcell hSw (HX1.out.cell 0)
      have s2 : w'.cell? ⟨w7.heap.size, 1, none⟩ = some (.slice A7 2 c7) := keepcell hSw (HX1.out.cell 1)
      go_simp
      try (with_reducible rfl)
    try simp only [Act.put, List.setIfInBounds_toArray, List.set_cons_zero, List.set_cons_succ]
    refine wpM_step (i := 50) (o := ⟨some 61, _, _, _, _, _⟩) rfl (by decide +kernel) (by decide) (fun K hK => ?_)
    go_simp
    refine (Contains_any 0 _ 0 _ [] _ 0 _ [] _ ⟨rfl, fun h => absurd h (by decide)⟩ ⟨rfl, fun h => absurd h (by decide)⟩ (by decide) (by decide)).mono ?_
    rintro e x38 ⟨rfl, h38⟩
    have b38 : Below W8.heap.size W8 x38 := b37.trans (h38.mono b37.size)
    clear h38
    rw [show contB [] [] = false by decide +kernel]
    refine hK.out _ _ b38 ?_
    clear hK K
    try simp only [Act.put, List.setIfInBounds_toArray, List.set_cons_zero, List.set_cons_succ]
    refine wpM_take (i := 51) (oi := ⟨some 62, _, _, _, _, _⟩) (v := ?_) rfl (by decide +kernel) (by decide +kernel) (by decide +kernel) (fun _ _ _ h => h) (Or.inl ⟨by rfl, ?_⟩) b38 ?_
    case refine_2 =>
      intro w' hSw
      have s1 : w'.cell? ⟨w7.heap.size, 0, none⟩ = some (.int .i64 1) := keepcell hSw (HX1.out.cell 0)
      have s2 : w'.cell? ⟨w7.heap.size, 1, none⟩ = some (.slice A7 2 c7) := keepcell hSw (HX1.out.cell 1)
      go_simp
      try (with_reducible rfl)
    try simp only [Act.put, List.setIfInBounds_toArray, List.set_cons_zero, List.set_cons_succ]
    refine wpM_take (i := 52) (oi := ⟨some 63, _, _, _, _, _⟩) (v := ?_) rfl (by decide +kernel) (by decide +kernel) (by decide +kernel) (fun _ _ _ h => h) (Or.inl ⟨by rfl, ?_⟩) b38 ?_
    case refine_2 =>
      intro w' hSw
      have s1 : w'.cell? ⟨w7.heap.size, 0, none⟩ = some (.int .i64 1) := keepcell hSw (HX1.out.cell 0)
      have s2 : w'.cell? ⟨w7.heap.size, 1, none⟩ = some (.slice A7 2 c7) := keepcell hSw (HX1.out.cell 1)
      go_simp
      try (with_reducible rfl)
    try simp only [Act.put, List.setIfInBounds_toArray, List.set_cons_zero, List.set_cons_succ]
    refine wpM_done (by decide +kernel) ?_
    simp only [List.drop_succ_cons, List.drop_zero]
    go_wp2
    go_ret
    exact ⟨rfl, HB8.out.trans (b38.mono HB8.out.size)⟩
end Go.Proofs.Ytcocdhndhlegiaa
