/- Law CongruenceMeet: for every input the call returns true, and its arguments read afterwards as before. -/
import Derived.Test.YtgicdfhhaefibaaMet
namespace Go.Proofs.Ytgicdfhhaefibaa
open Go.Sort Go.ChangeShapes Go.WideShapes Go.ChangeAt Go.RowKit

set_option maxHeartbeats 4000000 in
set_option maxRecDepth 100000 in
theorem meet_bad1 (r1 m1 r2 m2 : Int) (w : World) (hM : MeetC r1 m1 r2 m2 0 0 false 1) (v1 : vld r1 m1 = false) :
    Calls Try.prog 5 #[.agg #[.int .i64 r1, .int .i64 m1], .agg #[.int .i64 r2, .int .i64 m2]] w fun e w' => e = .returned (.bool true) ∧ Below w.heap.size w w' := by
  have HM := Lib.hid hM
  clear hM
  have V1 := Lib.hid (fun w => refvalid_is r1 m1 false w v1)
  clear v1
  go_enter Try.func5, Try.ntmps5
  go_wp2_with fail
  refine (awake_any _).mono ?_
  rintro e wa ⟨rfl, h1⟩
  have s0 : wa.cell? ⟨w.heap.size, 0, none⟩ = some (.int .i64 r1) ∧ wa.cell? ⟨w.heap.size, 1, none⟩ = some (.int .i64 m1) ∧ wa.cell? ⟨w.heap.size + 1, 0, none⟩ = some (.int .i64 r2) ∧ wa.cell? ⟨w.heap.size + 1, 1, none⟩ = some (.int .i64 m2) ∧ Below w.heap.size w wa := by
    refine ⟨keepcell h1 (pastcell newcell0), keepcell h1 (pastcell newcell1), keepcell h1 (by rw [World.cell?_alloc_at _ _ _ _ (by simp)]; rfl), keepcell h1 (by rw [World.cell?_alloc_at _ _ _ _ (by simp)]; rfl), ?_⟩
    exact (((Below.refl _ _).alloc (Nat.le_refl _) _).alloc (by simp) _).trans (h1.mono (by simp; omega))
  have z0 := h1.size
  simp at z0
  clear h1
  go_upto_region 3 with fail
  go_cut [5, 6, 7] (fun s7 s8 s9 wx => ∃ g : Nat, s7 = .pointer (some ⟨g, 0, none⟩) ∧ s8 = .bool false ∧ s9 = .int .i64 1 ∧ wx.cell? ⟨g, 0, none⟩ = some (.int .i64 0) ∧ wx.cell? ⟨g, 1, none⟩ = some (.int .i64 0) ∧ wx.cell? ⟨w.heap.size, 0, none⟩ = some (.int .i64 r1) ∧ wx.cell? ⟨w.heap.size, 1, none⟩ = some (.int .i64 m1) ∧ wx.cell? ⟨w.heap.size + 1, 0, none⟩ = some (.int .i64 r2) ∧ wx.cell? ⟨w.heap.size + 1, 1, none⟩ = some (.int .i64 m2) ∧ Below w.heap.size w wx)
  case first =>
    go_region_held3 (fun w' => w'.cell? ⟨w.heap.size, 0, none⟩ = some (.int .i64 r1) ∧ w'.cell? ⟨w.heap.size, 1, none⟩ = some (.int .i64 m1) ∧ w'.cell? ⟨w.heap.size + 1, 0, none⟩ = some (.int .i64 r2) ∧ w'.cell? ⟨w.heap.size + 1, 1, none⟩ = some (.int .i64 m2) ∧ Below w.heap.size w w') (first | exact s0 | exact keep4d s0 | exact keep4 ‹_› hb | exact keep4a ‹_› | exact keep4n ‹_› (by omega) (by omega) (by omega) | exact keep4s (keep4s ‹_› (by omega) (by omega) (by omega)) (by omega) (by omega) (by omega) | exact keep4d ‹_› | go_keep)
      (first | (go_at_call 17; refine (to_any _ _ _).mono ?_; rintro e w2 ⟨rfl, hb⟩; have zz := hb.size; (try simp at zz); (first | (have n2 := keepfroz hb n0 n2; have n3 := keepfroz hb n0 n3; have n0 := keepcell hb n0; have n1 := keepcell hb n1) | (have n0 := keepcell hb newcell0; have n1 := keepcell hb newcell1; have n2 := keepfroz hb newcell0 (newfroz (o := 0)); have n3 := keepfroz hb newcell0 (newfroz (o := 1))) | skip)) | (go_at_call 19; refine (HM.out _).mono ?_; rintro e w2 ⟨rfl, hb⟩; have zz := hb.size; (try simp at zz); (first | (have n2 := keepfroz hb n0 n2; have n3 := keepfroz hb n0 n3; have n0 := keepcell hb n0; have n1 := keepcell hb n1) | (have n0 := keepcell hb newcell0; have n1 := keepcell hb newcell1; have n2 := keepfroz hb newcell0 (newfroz (o := 0)); have n3 := keepfroz hb newcell0 (newfroz (o := 1))) | skip)))
    all_goals (go_wp2_with fail; go_meet)
    all_goals first | exact ⟨_, rfl, rfl, rfl, newcell0, newcell1, ‹_›⟩ | exact ⟨_, rfl, rfl, rfl, setA n0, setB n1, ‹_›⟩
  case rest =>
    obtain ⟨g, rfl, rfl, rfl, c0, c1, k1, k2, k3, k4, hB⟩ := hcut
    clear z0 s0
    go_wp2_with fail
    refine (V1.out _).mono ?_
    rintro e wn ⟨rfl, hb⟩
    replace c0 := keepcell hb c0
    replace c1 := keepcell hb c1
    replace k1 := keepcell hb k1
    replace k2 := keepcell hb k2
    replace k3 := keepcell hb k3
    replace k4 := keepcell hb k4
    replace hB := more_below hB hb
    clear hb
    go_wp2
    go_ret
    exact ⟨rfl, hB⟩

set_option maxHeartbeats 4000000 in
set_option maxRecDepth 100000 in
theorem meet_bad2 (r1 m1 r2 m2 : Int) (w : World) (hM : MeetC r1 m1 r2 m2 0 0 false 1) (v1 : vld r1 m1 = true) (v2 : vld r2 m2 = false) :
    Calls Try.prog 5 #[.agg #[.int .i64 r1, .int .i64 m1], .agg #[.int .i64 r2, .int .i64 m2]] w fun e w' => e = .returned (.bool true) ∧ Below w.heap.size w w' := by
  have HM := Lib.hid hM
  clear hM
  have V1 := Lib.hid (fun w => refvalid_is r1 m1 true w v1)
  have V2 := Lib.hid (fun w => refvalid_is r2 m2 false w v2)
  clear v1 v2
  go_enter Try.func5, Try.ntmps5
  go_wp2_with fail
  refine (awake_any _).mono ?_
  rintro e wa ⟨rfl, h1⟩
  have s0 : wa.cell? ⟨w.heap.size, 0, none⟩ = some (.int .i64 r1) ∧ wa.cell? ⟨w.heap.size, 1, none⟩ = some (.int .i64 m1) ∧ wa.cell? ⟨w.heap.size + 1, 0, none⟩ = some (.int .i64 r2) ∧ wa.cell? ⟨w.heap.size + 1, 1, none⟩ = some (.int .i64 m2) ∧ Below w.heap.size w wa := by
    refine ⟨keepcell h1 (pastcell newcell0), keepcell h1 (pastcell newcell1), keepcell h1 (by rw [World.cell?_alloc_at _ _ _ _ (by simp)]; rfl), keepcell h1 (by rw [World.cell?_alloc_at _ _ _ _ (by simp)]; rfl), ?_⟩
    exact (((Below.refl _ _).alloc (Nat.le_refl _) _).alloc (by simp) _).trans (h1.mono (by simp; omega))
  have z0 := h1.size
  simp at z0
  clear h1
  go_upto_region 3 with fail
  go_cut [5, 6, 7] (fun s7 s8 s9 wx => ∃ g : Nat, s7 = .pointer (some ⟨g, 0, none⟩) ∧ s8 = .bool false ∧ s9 = .int .i64 1 ∧ wx.cell? ⟨g, 0, none⟩ = some (.int .i64 0) ∧ wx.cell? ⟨g, 1, none⟩ = some (.int .i64 0) ∧ wx.cell? ⟨w.heap.size, 0, none⟩ = some (.int .i64 r1) ∧ wx.cell? ⟨w.heap.size, 1, none⟩ = some (.int .i64 m1) ∧ wx.cell? ⟨w.heap.size + 1, 0, none⟩ = some (.int .i64 r2) ∧ wx.cell? ⟨w.heap.size + 1, 1, none⟩ = some (.int .i64 m2) ∧ Below w.heap.size w wx)
  case first =>
    go_region_held3 (fun w' => w'.cell? ⟨w.heap.size, 0, none⟩ = some (.int .i64 r1) ∧ w'.cell? ⟨w.heap.size, 1, none⟩ = some (.int .i64 m1) ∧ w'.cell? ⟨w.heap.size + 1, 0, none⟩ = some (.int .i64 r2) ∧ w'.cell? ⟨w.heap.size + 1, 1, none⟩ = some (.int .i64 m2) ∧ Below w.heap.size w w') (first | exact s0 | exact keep4d s0 | exact keep4 ‹_› hb | exact keep4a ‹_› | exact keep4n ‹_› (by omega) (by omega) (by omega) | exact keep4s (keep4s ‹_› (by omega) (by omega) (by omega)) (by omega) (by omega) (by omega) | exact keep4d ‹_› | go_keep)
      (first | (go_at_call 17; refine (to_any _ _ _).mono ?_; rintro e w2 ⟨rfl, hb⟩; have zz := hb.size; (try simp at zz); (first | (have n2 := keepfroz hb n0 n2; have n3 := keepfroz hb n0 n3; have n0 := keepcell hb n0; have n1 := keepcell hb n1) | (have n0 := keepcell hb newcell0; have n1 := keepcell hb newcell1; have n2 := keepfroz hb newcell0 (newfroz (o := 0)); have n3 := keepfroz hb newcell0 (newfroz (o := 1))) | skip)) | (go_at_call 19; refine (HM.out _).mono ?_; rintro e w2 ⟨rfl, hb⟩; have zz := hb.size; (try simp at zz); (first | (have n2 := keepfroz hb n0 n2; have n3 := keepfroz hb n0 n3; have n0 := keepcell hb n0; have n1 := keepcell hb n1) | (have n0 := keepcell hb newcell0; have n1 := keepcell hb newcell1; have n2 := keepfroz hb newcell0 (newfroz (o := 0)); have n3 := keepfroz hb newcell0 (newfroz (o := 1))) | skip)))
    all_goals (go_wp2_with fail; go_meet)
    all_goals first | exact ⟨_, rfl, rfl, rfl, newcell0, newcell1, ‹_›⟩ | exact ⟨_, rfl, rfl, rfl, setA n0, setB n1, ‹_›⟩
  case rest =>
    obtain ⟨g, rfl, rfl, rfl, c0, c1, k1, k2, k3, k4, hB⟩ := hcut
    clear z0 s0
    go_wp2_with fail
    refine (V1.out _).mono ?_
    rintro e wn ⟨rfl, hb⟩
    replace c0 := keepcell hb c0
    replace c1 := keepcell hb c1
    replace k1 := keepcell hb k1
    replace k2 := keepcell hb k2
    replace k3 := keepcell hb k3
    replace k4 := keepcell hb k4
    replace hB := more_below hB hb
    clear hb
    go_wp2_with fail
    refine (V2.out _).mono ?_
    rintro e wn ⟨rfl, hb⟩
    replace c0 := keepcell hb c0
    replace c1 := keepcell hb c1
    replace k1 := keepcell hb k1
    replace k2 := keepcell hb k2
    replace k3 := keepcell hb k3
    replace k4 := keepcell hb k4
    replace hB := more_below hB hb
    clear hb
    go_wp2
    go_ret
    exact ⟨rfl, hB⟩

set_option maxHeartbeats 4000000 in
set_option maxRecDepth 100000 in
theorem meet_nomet (r1 m1 r2 m2 : Int) (w : World) (hM : MeetC r1 m1 r2 m2 0 0 false 0) (v1 : vld r1 m1 = true) (v2 : vld r2 m2 = true) (hm : ∀ w, Calls Try.prog 21 #[.agg #[.int .i64 r1, .int .i64 m1], .agg #[.int .i64 r2, .int .i64 m2]] w fun e w' => e = .returned (.bool false) ∧ Below w.heap.size w w') :
    Calls Try.prog 5 #[.agg #[.int .i64 r1, .int .i64 m1], .agg #[.int .i64 r2, .int .i64 m2]] w fun e w' => e = .returned (.bool true) ∧ Below w.heap.size w w' := by
  have HM := Lib.hid hM
  clear hM
  have V1 := Lib.hid (fun w => refvalid_is r1 m1 true w v1)
  have V2 := Lib.hid (fun w => refvalid_is r2 m2 true w v2)
  have X := Lib.hid hm
  clear v1 v2 hm
  go_enter Try.func5, Try.ntmps5
  go_wp2_with fail
  refine (awake_any _).mono ?_
  rintro e wa ⟨rfl, h1⟩
  have s0 : wa.cell? ⟨w.heap.size, 0, none⟩ = some (.int .i64 r1) ∧ wa.cell? ⟨w.heap.size, 1, none⟩ = some (.int .i64 m1) ∧ wa.cell? ⟨w.heap.size + 1, 0, none⟩ = some (.int .i64 r2) ∧ wa.cell? ⟨w.heap.size + 1, 1, none⟩ = some (.int .i64 m2) ∧ Below w.heap.size w wa := by
    refine ⟨keepcell h1 (pastcell newcell0), keepcell h1 (pastcell newcell1), keepcell h1 (by rw [World.cell?_alloc_at _ _ _ _ (by simp)]; rfl), keepcell h1 (by rw [World.cell?_alloc_at _ _ _ _ (by simp)]; rfl), ?_⟩
    exact (((Below.refl _ _).alloc (Nat.le_refl _) _).alloc (by simp) _).trans (h1.mono (by simp; omega))
  have z0 := h1.size
  simp at z0
  clear h1
  go_upto_region 3 with fail
  go_cut [5, 6, 7] (fun s7 s8 s9 wx => ∃ g : Nat, s7 = .pointer (some ⟨g, 0, none⟩) ∧ s8 = .bool false ∧ s9 = .int .i64 0 ∧ wx.cell? ⟨g, 0, none⟩ = some (.int .i64 0) ∧ wx.cell? ⟨g, 1, none⟩ = some (.int .i64 0) ∧ wx.cell? ⟨w.heap.size, 0, none⟩ = some (.int .i64 r1) ∧ wx.cell? ⟨w.heap.size, 1, none⟩ = some (.int .i64 m1) ∧ wx.cell? ⟨w.heap.size + 1, 0, none⟩ = some (.int .i64 r2) ∧ wx.cell? ⟨w.heap.size + 1, 1, none⟩ = some (.int .i64 m2) ∧ Below w.heap.size w wx)
  case first =>
    go_region_held3 (fun w' => w'.cell? ⟨w.heap.size, 0, none⟩ = some (.int .i64 r1) ∧ w'.cell? ⟨w.heap.size, 1, none⟩ = some (.int .i64 m1) ∧ w'.cell? ⟨w.heap.size + 1, 0, none⟩ = some (.int .i64 r2) ∧ w'.cell? ⟨w.heap.size + 1, 1, none⟩ = some (.int .i64 m2) ∧ Below w.heap.size w w') (first | exact s0 | exact keep4d s0 | exact keep4 ‹_› hb | exact keep4a ‹_› | exact keep4n ‹_› (by omega) (by omega) (by omega) | exact keep4s (keep4s ‹_› (by omega) (by omega) (by omega)) (by omega) (by omega) (by omega) | exact keep4d ‹_› | go_keep)
      (first | (go_at_call 17; refine (to_any _ _ _).mono ?_; rintro e w2 ⟨rfl, hb⟩; have zz := hb.size; (try simp at zz); (first | (have n2 := keepfroz hb n0 n2; have n3 := keepfroz hb n0 n3; have n0 := keepcell hb n0; have n1 := keepcell hb n1) | (have n0 := keepcell hb newcell0; have n1 := keepcell hb newcell1; have n2 := keepfroz hb newcell0 (newfroz (o := 0)); have n3 := keepfroz hb newcell0 (newfroz (o := 1))) | skip)) | (go_at_call 19; refine (HM.out _).mono ?_; rintro e w2 ⟨rfl, hb⟩; have zz := hb.size; (try simp at zz); (first | (have n2 := keepfroz hb n0 n2; have n3 := keepfroz hb n0 n3; have n0 := keepcell hb n0; have n1 := keepcell hb n1) | (have n0 := keepcell hb newcell0; have n1 := keepcell hb newcell1; have n2 := keepfroz hb newcell0 (newfroz (o := 0)); have n3 := keepfroz hb newcell0 (newfroz (o := 1))) | skip)))
    all_goals (go_wp2_with fail; go_meet)
    all_goals first | exact ⟨_, rfl, rfl, rfl, newcell0, newcell1, ‹_›⟩ | exact ⟨_, rfl, rfl, rfl, setA n0, setB n1, ‹_›⟩
  case rest =>
    obtain ⟨g, rfl, rfl, rfl, c0, c1, k1, k2, k3, k4, hB⟩ := hcut
    clear z0 s0
    go_wp2_with fail
    refine (V1.out _).mono ?_
    rintro e wn ⟨rfl, hb⟩
    replace c0 := keepcell hb c0
    replace c1 := keepcell hb c1
    replace k1 := keepcell hb k1
    replace k2 := keepcell hb k2
    replace k3 := keepcell hb k3
    replace k4 := keepcell hb k4
    replace hB := more_below hB hb
    clear hb
    go_wp2_with fail
    refine (V2.out _).mono ?_
    rintro e wn ⟨rfl, hb⟩
    replace c0 := keepcell hb c0
    replace c1 := keepcell hb c1
    replace k1 := keepcell hb k1
    replace k2 := keepcell hb k2
    replace k3 := keepcell hb k3
    replace k4 := keepcell hb k4
    replace hB := more_below hB hb
    clear hb
    go_wp2_with fail
    refine (X.out _).mono ?_
    rintro e wn ⟨rfl, hb⟩
    replace c0 := keepcell hb c0
    replace c1 := keepcell hb c1
    replace k1 := keepcell hb k1
    replace k2 := keepcell hb k2
    replace k3 := keepcell hb k3
    replace k4 := keepcell hb k4
    replace hB := more_below hB hb
    clear hb
    go_wp2
    go_ret
    exact ⟨rfl, hB⟩

set_option maxHeartbeats 4000000 in
set_option maxRecDepth 100000 in
theorem meet_nolcm (r1 m1 r2 m2 : Int) (w : World) (hM : MeetC r1 m1 r2 m2 0 0 false 3) (v1 : vld r1 m1 = true) (v2 : vld r2 m2 = true) (hm : ∀ w, Calls Try.prog 21 #[.agg #[.int .i64 r1, .int .i64 m1], .agg #[.int .i64 r2, .int .i64 m2]] w fun e w' => e = .returned (.bool true) ∧ Below w.heap.size w w') (hl : ∀ w, Calls Try.prog 22 #[.int .i64 m1, .int .i64 m2] w fun e w' => e = .returned (.tuple #[.int .i64 0, .bool false]) ∧ Below w.heap.size w w') :
    Calls Try.prog 5 #[.agg #[.int .i64 r1, .int .i64 m1], .agg #[.int .i64 r2, .int .i64 m2]] w fun e w' => e = .returned (.bool true) ∧ Below w.heap.size w w' := by
  have HM := Lib.hid hM
  clear hM
  have V1 := Lib.hid (fun w => refvalid_is r1 m1 true w v1)
  have V2 := Lib.hid (fun w => refvalid_is r2 m2 true w v2)
  have X := Lib.hid hm
  have Y := Lib.hid hl
  clear v1 v2 hm hl
  go_enter Try.func5, Try.ntmps5
  go_wp2_with fail
  refine (awake_any _).mono ?_
  rintro e wa ⟨rfl, h1⟩
  have s0 : wa.cell? ⟨w.heap.size, 0, none⟩ = some (.int .i64 r1) ∧ wa.cell? ⟨w.heap.size, 1, none⟩ = some (.int .i64 m1) ∧ wa.cell? ⟨w.heap.size + 1, 0, none⟩ = some (.int .i64 r2) ∧ wa.cell? ⟨w.heap.size + 1, 1, none⟩ = some (.int .i64 m2) ∧ Below w.heap.size w wa := by
    refine ⟨keepcell h1 (pastcell newcell0), keepcell h1 (pastcell newcell1), keepcell h1 (by rw [World.cell?_alloc_at _ _ _ _ (by simp)]; rfl), keepcell h1 (by rw [World.cell?_alloc_at _ _ _ _ (by simp)]; rfl), ?_⟩
    exact (((Below.refl _ _).alloc (Nat.le_refl _) _).alloc (by simp) _).trans (h1.mono (by simp; omega))
  have z0 := h1.size
  simp at z0
  clear h1
  go_upto_region 3 with fail
  go_cut [5, 6, 7] (fun s7 s8 s9 wx => ∃ g : Nat, s7 = .pointer (some ⟨g, 0, none⟩) ∧ s8 = .bool false ∧ s9 = .int .i64 3 ∧ wx.cell? ⟨g, 0, none⟩ = some (.int .i64 0) ∧ wx.cell? ⟨g, 1, none⟩ = some (.int .i64 0) ∧ wx.cell? ⟨w.heap.size, 0, none⟩ = some (.int .i64 r1) ∧ wx.cell? ⟨w.heap.size, 1, none⟩ = some (.int .i64 m1) ∧ wx.cell? ⟨w.heap.size + 1, 0, none⟩ = some (.int .i64 r2) ∧ wx.cell? ⟨w.heap.size + 1, 1, none⟩ = some (.int .i64 m2) ∧ Below w.heap.size w wx)
  case first =>
    go_region_held3 (fun w' => w'.cell? ⟨w.heap.size, 0, none⟩ = some (.int .i64 r1) ∧ w'.cell? ⟨w.heap.size, 1, none⟩ = some (.int .i64 m1) ∧ w'.cell? ⟨w.heap.size + 1, 0, none⟩ = some (.int .i64 r2) ∧ w'.cell? ⟨w.heap.size + 1, 1, none⟩ = some (.int .i64 m2) ∧ Below w.heap.size w w') (first | exact s0 | exact keep4d s0 | exact keep4 ‹_› hb | exact keep4a ‹_› | exact keep4n ‹_› (by omega) (by omega) (by omega) | exact keep4s (keep4s ‹_› (by omega) (by omega) (by omega)) (by omega) (by omega) (by omega) | exact keep4d ‹_› | go_keep)
      (first | (go_at_call 17; refine (to_any _ _ _).mono ?_; rintro e w2 ⟨rfl, hb⟩; have zz := hb.size; (try simp at zz); (first | (have n2 := keepfroz hb n0 n2; have n3 := keepfroz hb n0 n3; have n0 := keepcell hb n0; have n1 := keepcell hb n1) | (have n0 := keepcell hb newcell0; have n1 := keepcell hb newcell1; have n2 := keepfroz hb newcell0 (newfroz (o := 0)); have n3 := keepfroz hb newcell0 (newfroz (o := 1))) | skip)) | (go_at_call 19; refine (HM.out _).mono ?_; rintro e w2 ⟨rfl, hb⟩; have zz := hb.size; (try simp at zz); (first | (have n2 := keepfroz hb n0 n2; have n3 := keepfroz hb n0 n3; have n0 := keepcell hb n0; have n1 := keepcell hb n1) | (have n0 := keepcell hb newcell0; have n1 := keepcell hb newcell1; have n2 := keepfroz hb newcell0 (newfroz (o := 0)); have n3 := keepfroz hb newcell0 (newfroz (o := 1))) | skip)))
    all_goals (go_wp2_with fail; go_meet)
    all_goals first | exact ⟨_, rfl, rfl, rfl, newcell0, newcell1, ‹_›⟩ | exact ⟨_, rfl, rfl, rfl, setA n0, setB n1, ‹_›⟩
  case rest =>
    obtain ⟨g, rfl, rfl, rfl, c0, c1, k1, k2, k3, k4, hB⟩ := hcut
    clear z0 s0
    go_wp2_with fail
    refine (V1.out _).mono ?_
    rintro e wn ⟨rfl, hb⟩
    replace c0 := keepcell hb c0
    replace c1 := keepcell hb c1
    replace k1 := keepcell hb k1
    replace k2 := keepcell hb k2
    replace k3 := keepcell hb k3
    replace k4 := keepcell hb k4
    replace hB := more_below hB hb
    clear hb
    go_wp2_with fail
    refine (V2.out _).mono ?_
    rintro e wn ⟨rfl, hb⟩
    replace c0 := keepcell hb c0
    replace c1 := keepcell hb c1
    replace k1 := keepcell hb k1
    replace k2 := keepcell hb k2
    replace k3 := keepcell hb k3
    replace k4 := keepcell hb k4
    replace hB := more_below hB hb
    clear hb
    go_wp2_with fail
    refine (X.out _).mono ?_
    rintro e wn ⟨rfl, hb⟩
    replace c0 := keepcell hb c0
    replace c1 := keepcell hb c1
    replace k1 := keepcell hb k1
    replace k2 := keepcell hb k2
    replace k3 := keepcell hb k3
    replace k4 := keepcell hb k4
    replace hB := more_below hB hb
    clear hb
    go_wp2_with fail
    refine (Y.out _).mono ?_
    rintro e wn ⟨rfl, hb⟩
    replace c0 := keepcell hb c0
    replace c1 := keepcell hb c1
    replace k1 := keepcell hb k1
    replace k2 := keepcell hb k2
    replace k3 := keepcell hb k3
    replace k4 := keepcell hb k4
    replace hB := more_below hB hb
    clear hb
    go_wp2
    go_ret
    exact ⟨rfl, hB⟩

set_option maxHeartbeats 4000000 in
set_option maxRecDepth 100000 in
theorem meet_yes (r1 m1 r2 m2 x l : Int) (w : World) (hM : MeetC r1 m1 r2 m2 x l true 0) (v1 : vld r1 m1 = true) (v2 : vld r2 m2 = true) (hm : ∀ w, Calls Try.prog 21 #[.agg #[.int .i64 r1, .int .i64 m1], .agg #[.int .i64 r2, .int .i64 m2]] w fun e w' => e = .returned (.bool true) ∧ Below w.heap.size w w') (hl : ∀ w, Calls Try.prog 22 #[.int .i64 m1, .int .i64 m2] w fun e w' => e = .returned (.tuple #[.int .i64 l, .bool true]) ∧ Below w.heap.size w w') (v3 : vld x l = true) (h1 : cont r1 m1 x = true) (h2 : cont r2 m2 x = true) :
    Calls Try.prog 5 #[.agg #[.int .i64 r1, .int .i64 m1], .agg #[.int .i64 r2, .int .i64 m2]] w fun e w' => e = .returned (.bool true) ∧ Below w.heap.size w w' := by
  have HM := Lib.hid hM
  clear hM
  have V1 := Lib.hid (fun w => refvalid_is r1 m1 true w v1)
  have V2 := Lib.hid (fun w => refvalid_is r2 m2 true w v2)
  have X := Lib.hid hm
  have Y := Lib.hid hl
  have V3 := Lib.hid (fun w => refvalid_is x l true w v3)
  have C1 := Lib.hid (fun w => h1 ▸ refContains_any r1 m1 x w)
  have C2 := Lib.hid (fun w => h2 ▸ refContains_any r2 m2 x w)
  have OF := Lib.hid (fun w => of_any x l w)
  clear v1 v2 hm hl v3 h1 h2
  go_enter Try.func5, Try.ntmps5
  go_wp2_with fail
  refine (awake_any _).mono ?_
  rintro e wa ⟨rfl, h1⟩
  have s0 : wa.cell? ⟨w.heap.size, 0, none⟩ = some (.int .i64 r1) ∧ wa.cell? ⟨w.heap.size, 1, none⟩ = some (.int .i64 m1) ∧ wa.cell? ⟨w.heap.size + 1, 0, none⟩ = some (.int .i64 r2) ∧ wa.cell? ⟨w.heap.size + 1, 1, none⟩ = some (.int .i64 m2) ∧ Below w.heap.size w wa := by
    refine ⟨keepcell h1 (pastcell newcell0), keepcell h1 (pastcell newcell1), keepcell h1 (by rw [World.cell?_alloc_at _ _ _ _ (by simp)]; rfl), keepcell h1 (by rw [World.cell?_alloc_at _ _ _ _ (by simp)]; rfl), ?_⟩
    exact (((Below.refl _ _).alloc (Nat.le_refl _) _).alloc (by simp) _).trans (h1.mono (by simp; omega))
  have z0 := h1.size
  simp at z0
  clear h1
  go_upto_region 3 with fail
  go_cut [5, 6, 7] (fun s7 s8 s9 wx => ∃ g : Nat, s7 = .pointer (some ⟨g, 0, none⟩) ∧ s8 = .bool true ∧ s9 = .int .i64 0 ∧ wx.cell? ⟨g, 0, none⟩ = some (.int .i64 x) ∧ wx.cell? ⟨g, 1, none⟩ = some (.int .i64 l) ∧ wx.cell? ⟨w.heap.size, 0, none⟩ = some (.int .i64 r1) ∧ wx.cell? ⟨w.heap.size, 1, none⟩ = some (.int .i64 m1) ∧ wx.cell? ⟨w.heap.size + 1, 0, none⟩ = some (.int .i64 r2) ∧ wx.cell? ⟨w.heap.size + 1, 1, none⟩ = some (.int .i64 m2) ∧ Below w.heap.size w wx)
  case first =>
    go_region_held3 (fun w' => w'.cell? ⟨w.heap.size, 0, none⟩ = some (.int .i64 r1) ∧ w'.cell? ⟨w.heap.size, 1, none⟩ = some (.int .i64 m1) ∧ w'.cell? ⟨w.heap.size + 1, 0, none⟩ = some (.int .i64 r2) ∧ w'.cell? ⟨w.heap.size + 1, 1, none⟩ = some (.int .i64 m2) ∧ Below w.heap.size w w') (first | exact s0 | exact keep4d s0 | exact keep4 ‹_› hb | exact keep4a ‹_› | exact keep4n ‹_› (by omega) (by omega) (by omega) | exact keep4s (keep4s ‹_› (by omega) (by omega) (by omega)) (by omega) (by omega) (by omega) | exact keep4d ‹_› | go_keep)
      (first | (go_at_call 17; refine (to_any _ _ _).mono ?_; rintro e w2 ⟨rfl, hb⟩; have zz := hb.size; (try simp at zz); (first | (have n2 := keepfroz hb n0 n2; have n3 := keepfroz hb n0 n3; have n0 := keepcell hb n0; have n1 := keepcell hb n1) | (have n0 := keepcell hb newcell0; have n1 := keepcell hb newcell1; have n2 := keepfroz hb newcell0 (newfroz (o := 0)); have n3 := keepfroz hb newcell0 (newfroz (o := 1))) | skip)) | (go_at_call 19; refine (HM.out _).mono ?_; rintro e w2 ⟨rfl, hb⟩; have zz := hb.size; (try simp at zz); (first | (have n2 := keepfroz hb n0 n2; have n3 := keepfroz hb n0 n3; have n0 := keepcell hb n0; have n1 := keepcell hb n1) | (have n0 := keepcell hb newcell0; have n1 := keepcell hb newcell1; have n2 := keepfroz hb newcell0 (newfroz (o := 0)); have n3 := keepfroz hb newcell0 (newfroz (o := 1))) | skip)))
    all_goals (go_wp2_with fail; go_meet)
    all_goals first | exact ⟨_, rfl, rfl, rfl, newcell0, newcell1, ‹_›⟩ | exact ⟨_, rfl, rfl, rfl, setA n0, setB n1, ‹_›⟩
  case rest =>
    obtain ⟨g, rfl, rfl, rfl, c0, c1, k1, k2, k3, k4, hB⟩ := hcut
    clear z0 s0
    go_wp2_with fail
    refine (V1.out _).mono ?_
    rintro e wn ⟨rfl, hb⟩
    replace c0 := keepcell hb c0
    replace c1 := keepcell hb c1
    replace k1 := keepcell hb k1
    replace k2 := keepcell hb k2
    replace k3 := keepcell hb k3
    replace k4 := keepcell hb k4
    replace hB := more_below hB hb
    clear hb
    go_wp2_with fail
    refine (V2.out _).mono ?_
    rintro e wn ⟨rfl, hb⟩
    replace c0 := keepcell hb c0
    replace c1 := keepcell hb c1
    replace k1 := keepcell hb k1
    replace k2 := keepcell hb k2
    replace k3 := keepcell hb k3
    replace k4 := keepcell hb k4
    replace hB := more_below hB hb
    clear hb
    go_wp2_with fail
    refine (X.out _).mono ?_
    rintro e wn ⟨rfl, hb⟩
    replace c0 := keepcell hb c0
    replace c1 := keepcell hb c1
    replace k1 := keepcell hb k1
    replace k2 := keepcell hb k2
    replace k3 := keepcell hb k3
    replace k4 := keepcell hb k4
    replace hB := more_below hB hb
    clear hb
    go_wp2_with fail
    refine (Y.out _).mono ?_
    rintro e wn ⟨rfl, hb⟩
    replace c0 := keepcell hb c0
    replace c1 := keepcell hb c1
    replace k1 := keepcell hb k1
    replace k2 := keepcell hb k2
    replace k3 := keepcell hb k3
    replace k4 := keepcell hb k4
    replace hB := more_below hB hb
    clear hb
    go_wp2_with fail
    refine (OF.out _).mono ?_
    rintro e wn ⟨rfl, hb⟩
    replace c0 := keepcell hb c0
    replace c1 := keepcell hb c1
    replace k1 := keepcell hb k1
    replace k2 := keepcell hb k2
    replace k3 := keepcell hb k3
    replace k4 := keepcell hb k4
    replace hB := more_below hB hb
    clear hb
    go_wp2_with fail
    refine (V3.out _).mono ?_
    rintro e wn ⟨rfl, hb⟩
    replace c0 := keepcell hb c0
    replace c1 := keepcell hb c1
    replace k1 := keepcell hb k1
    replace k2 := keepcell hb k2
    replace k3 := keepcell hb k3
    replace k4 := keepcell hb k4
    replace hB := more_below hB hb
    clear hb
    go_wp2_with fail
    refine (C1.out _).mono ?_
    rintro e wn ⟨rfl, hb⟩
    replace c0 := keepcell hb c0
    replace c1 := keepcell hb c1
    replace k1 := keepcell hb k1
    replace k2 := keepcell hb k2
    replace k3 := keepcell hb k3
    replace k4 := keepcell hb k4
    replace hB := more_below hB hb
    clear hb
    go_wp2_with fail
    refine (C2.out _).mono ?_
    rintro e wn ⟨rfl, hb⟩
    replace c0 := keepcell hb c0
    replace c1 := keepcell hb c1
    replace k1 := keepcell hb k1
    replace k2 := keepcell hb k2
    replace k3 := keepcell hb k3
    replace k4 := keepcell hb k4
    replace hB := more_below hB hb
    clear hb
    go_wp2
    go_ret
    exact ⟨rfl, hB⟩

theorem congruenceMeet_walk (r1 m1 r2 m2 : Int) (w : World) (_ : -9223372036854775808 ≤ r1) (_ : r1 ≤ 9223372036854775807) (_ : -9223372036854775808 ≤ m1) (_ : m1 ≤ 9223372036854775807) (_ : -9223372036854775808 ≤ r2) (_ : r2 ≤ 9223372036854775807) (_ : -9223372036854775808 ≤ m2) (_ : m2 ≤ 9223372036854775807) :
    Calls Try.prog 5 #[.agg #[.int .i64 r1, .int .i64 m1], .agg #[.int .i64 r2, .int .i64 m2]] w fun e w' => e = .returned (.bool true) ∧ Below w.heap.size w w' := by
  obtain ⟨x, l, ok, er, hM, hF⟩ := meet_any r1 m1 r2 m2
  cases v1 : vld r1 m1
  · rcases hF with ⟨_, rfl, rfl, rfl, rfl⟩ | ⟨h, _⟩ | ⟨h, _⟩ | ⟨h, _⟩
    · exact meet_bad1 r1 m1 r2 m2 w hM v1
    all_goals (rw [v1] at h; cases h)
  cases v2 : vld r2 m2
  · rcases hF with ⟨_, rfl, rfl, rfl, rfl⟩ | ⟨_, h, _⟩ | ⟨_, h, _⟩ | ⟨_, h, _⟩
    · exact meet_bad2 r1 m1 r2 m2 w hM v1 v2
    all_goals (rw [v2] at h; cases h)
  obtain ⟨p1, p2, p3, p4⟩ := vld_yes v1
  obtain ⟨q1, q2, q3, q4⟩ := vld_yes v2
  have gp : 0 < Int.gcd m1 m2 := by
    have : Int.gcd m1 m2 ≠ 0 := by rw [ne_eq, Int.gcd_eq_zero_iff]; omega
    omega
  obtain ⟨g, hg⟩ : ∃ g : Int, ((Int.gcd m1 m2 : Nat) : Int) = g := ⟨_, rfl⟩
  have g1 : 1 ≤ g := by omega
  have e2 : g ∣ m2 := hg ▸ Int.gcd_dvd_right m1 m2
  have g2 : g ≤ m2 := Int.le_of_dvd (by omega) e2
  have n1 := div_pos' g m2 g1 q1 e2
  have met : ∀ w, Calls Try.prog 21 #[.agg #[.int .i64 r1, .int .i64 m1], .agg #[.int .i64 r2, .int .i64 m2]] w fun e w' => e = .returned (.bool (r1 % g == r2 % g)) ∧ Below w.heap.size w w' := fun w => Met_any r1 m1 r2 m2 g _ _ w p1 p2 q1 q2 hg g1 g2 rfl rfl
  have meq : (r1 % g == r2 % g) = true ↔ g ∣ r2 - r1 := by
    rw [beq_iff_eq, eq_comm, Int.emod_eq_emod_iff_emod_sub_eq_zero, Int.dvd_iff_emod_eq_zero]
  unfold MeetF at hF
  rw [hg, v1, v2] at hF
  rcases hF with ⟨h, _⟩ | ⟨_, _, hd, rfl, rfl, rfl, rfl⟩ | ⟨_, _, hd, hb, rfl, rfl, rfl, rfl⟩ | ⟨_, _, hd, hb, hl, rfl, rfl, x0, x1, hx1, hx2⟩
  · simp at h
  · have mf : (r1 % g == r2 % g) = false := by
      cases hz : (r1 % g == r2 % g)
      · rfl
      · exact absurd (meq.1 hz) hd
    exact meet_nomet r1 m1 r2 m2 w hM v1 v2 (mf ▸ met)
  · exact meet_nolcm r1 m1 r2 m2 w hM v1 v2 (meq.2 hd ▸ met) (fun w => LCM_no m1 m2 g _ w p1 p2 q1 q2 hg g1 rfl n1 hb)
  · exact meet_yes r1 m1 r2 m2 x l w hM v1 v2 (meq.2 hd ▸ met) (fun w => LCM_yes m1 m2 g _ l w p1 p2 q1 q2 hg g1 rfl n1 hl.symm (by omega) (by omega)) (by simp only [vld, decide_eq_true_eq]; omega) (by simp [cont, v1, hx1]) (by simp [cont, v2, hx2])

set_option maxRecDepth 100000 in
theorem congruenceMeet_lifted (os : Os) (started : os.Started) (H : Type) (enc : TypeId × Value → H) :
    ReturnsInHanded {} Try.checked os 5 .any (Rows.congruenceMeetSpec.pre6 enc Try.prog Try.f5 Rows.congruenceMeetRow.domain false) (Rows.congruenceMeetSpec.post enc Try.prog Try.f5 false true false false) := by
  refine law_lifted (C := Try.checked) (B := 4) Try.own started (by kernel_rfl) Try.func5
    (ChangeSpec.witness6 (enc := enc) (C := Try.checked) false ⟨#[], #[.agg #[.int .i64 0, .int .i64 0], .agg #[.int .i64 0, .int .i64 0]], []⟩ 8 (by kernel_rfl) (by kernel_rfl) (by kernel_rfl) (by kernel_rfl))
    Try.laidOut (by kernel_rfl) rfl rfl rfl Try.underlying4 (fun ds h => match ds, h with | [_, _], _ => rfl) ?_
  intro W base args ds ps hval hA hlt hsz
  rw [Try.params5] at hA hval
  clear hlt hsz
  obtain ⟨v0, vs0, d0, ds0, p0, q0, hargs, rfl, rfl, h0, r0⟩ := trodAll_cons hA
  obtain ⟨v1, vs1, d1, ds1, p1, q1, rfl, rfl, rfl, h1, r1⟩ := trodAll_cons r0
  obtain ⟨rfl, rfl, rfl⟩ := trodAll_nil r1
  obtain rfl : args = #[v0, v1] := by cases args; simp_all
  obtain ⟨e0, f0, y0, z0, m0, rfl, rfl, rfl, hy0, hz0⟩ := Joins.open_agg2 Try.underlying28 (by kernel_rfl) Try.cells28 (hval 0 28 v0 rfl rfl) h0
  obtain ⟨r0x, er0, rfl, wr0⟩ := DataW.trod_int Try.underlying2 hy0
  obtain ⟨m0x, em0, rfl, wm0⟩ := DataW.trod_int Try.underlying2 hz0
  obtain rfl : e0 = .int .i64 r0x := by simpa using er0
  obtain rfl : f0 = .int .i64 m0x := by simpa using em0
  obtain ⟨lr0, gr0⟩ := i64_bd wr0
  obtain ⟨lm0, gm0⟩ := i64_bd wm0
  obtain ⟨e1, f1, y1, z1, m1, rfl, rfl, rfl, hy1, hz1⟩ := Joins.open_agg2 Try.underlying28 (by kernel_rfl) Try.cells28 (hval 1 28 v1 rfl rfl) h1
  obtain ⟨r1x, er1, rfl, wr1⟩ := DataW.trod_int Try.underlying2 hy1
  obtain ⟨m1x, em1, rfl, wm1⟩ := DataW.trod_int Try.underlying2 hz1
  obtain rfl : e1 = .int .i64 r1x := by simpa using er1
  obtain rfl : f1 = .int .i64 m1x := by simpa using em1
  obtain ⟨lr1, gr1⟩ := i64_bd wr1
  obtain ⟨lm1, gm1⟩ := i64_bd wm1
  exact congruenceMeet_walk r0x m0x r1x m1x W lr0 gr0 lm0 gm0 lr1 gr1 lm1 gm1

theorem congruenceMeet_over : Rows.congruenceMeetRow.holds Try.pinned (OpenSpec.ofChange Rows.congruenceMeetSpec) :=
  OpenClaim.holds_of_wide 5 Try.f5 rfl rfl rfl rfl rfl rfl rfl ⟨rfl, rfl, rfl, rfl, rfl⟩ rfl rfl rfl rfl rfl (by kernel_rfl) Try.func5 (by kernel_rfl)
    (of_decide_eq_true (by kernel_rfl)) (by unfold Func.isWrapper; first | (rw [if_pos (by decide +kernel)]; kernel_rfl) | (rw [if_neg (by decide +kernel)]; exact ⟨rfl, rfl⟩))
    (fun os started H enc _ => congruenceMeet_lifted os started H enc)

theorem congruenceMeet_proved : Rows.CongruenceMeetSaid := congruenceMeet_over
end Go.Proofs.Ytgicdfhhaefibaa
