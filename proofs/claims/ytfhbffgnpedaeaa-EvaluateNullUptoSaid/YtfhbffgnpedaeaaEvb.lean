/- Integers, and functions of integers and values. -/
import Derived.Test.YtfhbffgnpedaeaaEvr
namespace Go.Proofs.Ytfhbffgnpedaeaa
open Go.ChangeShapes Go.WideShapes Go.ChangeAt Go.RowKit Go.ChangeMaps

theorem Int_any (n : Int) (w : World) : Calls Try.prog 48 #[.int .i64 n] w fun e w' => e = .returned (.agg #[.int .i64 1, .int .i64 n, .string ⟨#[]⟩]) ∧ Below w.heap.size w w' := by
  go_enter Try.func48, Try.ntmps48
  go_wp2
  go_returns
  exact ⟨rfl, (Below.refl _ w).alloc (Nat.le_refl _) _⟩
theorem rinteger_any (n : Int) (w : World) : Calls Try.prog 32 #[.int .i64 n] w fun e w' => e = .returned (.agg #[.int .i64 1, .int .i64 n, .string ⟨#[]⟩]) ∧ Below w.heap.size w w' := by
  go_enter Try.func32, Try.ntmps32
  go_wp2
  go_returns
  exact ⟨rfl, (Below.refl _ w).alloc (Nat.le_refl _) _⟩
theorem integer_any (n : Int) (w : World) : Calls Try.prog 28 #[.int .i64 n] w fun e w' => e = .returned (.agg #[.int .i64 1, .int .i64 n, .string ⟨#[]⟩]) ∧ Below w.heap.size w w' := by
  go_enter Try.func28, Try.ntmps28
  go_wp2
  go_returns
  exact ⟨rfl, (Below.refl _ w).alloc (Nat.le_refl _) _⟩
def nul : V3 := ⟨0, 0, ⟨#[]⟩⟩
def iV (n : Int) : V3 := ⟨1, n, ⟨#[]⟩⟩
def unM (op : Int) (v : V3) : V3 := if op = 3 then iV (wrap64 (-v.n)) else if op = 9 then iV v.s.size else nul
def qM (a b : Int) : Int := if Int.tmod a b < 0 then wrap64 (Int.tdiv a b - 1) else Int.tdiv a b
def binM (op a b : Int) : V3 := if op = 4 then iV (wrap64 (a + b)) else if op = 5 then iV (wrap64 (a - b)) else if op = 6 then iV (wrap64 (a * b)) else if b < 1 then nul else if op = 7 then iV (qM a b) else if op = 8 then iV (wrap64 (a - wrap64 (b * qM a b))) else nul
set_option maxRecDepth 100000 in
theorem unary_any (op k n : Int) (s : ByteArray) (w : World) (hs : s.size ≤ 9223372036854775807) : Calls Try.prog 30 #[.int .i64 op, .agg #[.int .i64 k, .int .i64 n, .string s]] w fun e w' => e = .returned (unM op ⟨k, n, s⟩).agg ∧ Below w.heap.size w w' := by
  obtain ⟨r, hr⟩ : ∃ r, unM op ⟨k, n, s⟩ = r := ⟨_, rfl⟩
  have HR := Lib.hid hr
  have HB := Lib.hid (show Below w.heap.size w ((w.alloc (.cells #[.int .i64 k, .int .i64 n, .string s] 23)).alloc (.cells #[.int .i64 0, .int .i64 0, .string ⟨#[]⟩] 23)) from ((Below.refl _ w).alloc (Nat.le_refl _) _).alloc (by simp) _)
  have HK := Lib.hid (show Blk ((w.alloc (.cells #[.int .i64 k, .int .i64 n, .string s] 23)).alloc (.cells #[.int .i64 0, .int .i64 0, .string ⟨#[]⟩] 23)) (w.heap.size + 1) 23 #[.int .i64 0, .int .i64 0, .string ⟨#[]⟩] from Blk.new_ (by simp) rfl)
  have CI := Lib.hid (fun n W => Int_any n W)
  unfold unM at HR
  rw [hr]
  clear hr
  by_cases h3 : op = 3
  · subst h3
    go_enter Try.func30, Try.ntmps30
    go_wp2_with fail
    refine (CI.out _ _).mono ?_
    rintro e w1 ⟨rfl, hb⟩
    have HBw := HB.out.trans (hb.mono HB.out.size)
    have B := Lib.hid (HK.out.below hb)
    clear hb
    go_wp2_with ((refine wpList_store_row (o := ⟨none, _, _, _, _, _⟩) rfl 23 _ _ rfl (w.heap.size + 1) #[.int .i64 1, .int .i64 (wrap64 (-n)), .string ⟨#[]⟩] rfl rfl 23 _ B.out (by kernel_rfl) rfl (by simp [Value.oneCell']) ?_))
    have gr := grown_row w1 (w.heap.size + 1) #[.int .i64 1, .int .i64 (wrap64 (-n)), .string ⟨#[]⟩]
    refine bodyPost_ret (results_c1 rfl _ _ _ (w.heap.size + 1) _ rfl (load23 (B.out.setRow (ds := #[.int .i64 1, .int .i64 (wrap64 (-n)), .string ⟨#[]⟩])) rfl)) rfl ?_
    exact ⟨by rw [← HR.out]; rfl, HBw.grown gr HBw.size (fun j hj => by injection hj with hj; omega)⟩
  · by_cases h9 : op = 9
    · subst h9
      go_enter Try.func30, Try.ntmps30
      go_wp2_with fail
      refine (CI.out _ _).mono ?_
      rintro e w1 ⟨rfl, hb⟩
      have HBw := HB.out.trans (hb.mono HB.out.size)
      have B := Lib.hid (HK.out.below hb)
      clear hb
      go_wp2_with ((refine wpList_store_row (o := ⟨none, _, _, _, _, _⟩) rfl 23 _ _ rfl (w.heap.size + 1) #[.int .i64 1, .int .i64 s.size, .string ⟨#[]⟩] rfl rfl 23 _ B.out (by kernel_rfl) rfl (by simp [Value.oneCell']) ?_))
      have gr := grown_row w1 (w.heap.size + 1) #[.int .i64 1, .int .i64 s.size, .string ⟨#[]⟩]
      refine bodyPost_ret (results_c1 rfl _ _ _ (w.heap.size + 1) _ rfl (load23 (B.out.setRow (ds := #[.int .i64 1, .int .i64 s.size, .string ⟨#[]⟩])) rfl)) rfl ?_
      exact ⟨by rw [← HR.out]; rfl, HBw.grown gr HBw.size (fun j hj => by injection hj with hj; omega)⟩
    · have e3 : (op == 3) = false := by simpa using h3
      have e9 : (op == 9) = false := by simpa using h9
      go_enter Try.func30, Try.ntmps30
      go_wp2
      go_returns
      exact ⟨by rw [← HR.out, if_neg h3, if_neg h9]; rfl, HB.out⟩
set_option maxRecDepth 100000 in
set_option maxHeartbeats 2000000 in
theorem binary_any (op a b : Int) (w : World) (hb0 : -9223372036854775808 ≤ b ∧ b ≤ 9223372036854775807) (ha0 : -9223372036854775808 ≤ a ∧ a ≤ 9223372036854775807) : Calls Try.prog 31 #[.int .i64 op, .int .i64 a, .int .i64 b] w fun e w' => e = .returned (binM op a b).agg ∧ Below w.heap.size w w' := by
  obtain ⟨r, hr⟩ : ∃ r, binM op a b = r := ⟨_, rfl⟩
  have HR := Lib.hid hr
  have HB := Lib.hid (show Below w.heap.size w (w.alloc (.cells #[.int .i64 0, .int .i64 0, .string ⟨#[]⟩] 23)) from (Below.refl _ w).alloc (Nat.le_refl _) _)
  have HK := Lib.hid (show Blk (w.alloc (.cells #[.int .i64 0, .int .i64 0, .string ⟨#[]⟩] 23)) w.heap.size 23 #[.int .i64 0, .int .i64 0, .string ⟨#[]⟩] from Blk.new _ _ _)
  have CI := Lib.hid (fun n W => Int_any n W)
  unfold binM at HR
  rw [hr]
  clear hr
  by_cases h4 : op = 4
  · subst h4
    go_enter Try.func31, Try.ntmps31
    go_wp2_with fail
    refine (CI.out _ _).mono ?_
    rintro e w1 ⟨rfl, hb⟩
    have HBw := HB.out.trans (hb.mono HB.out.size)
    have B := Lib.hid (HK.out.below hb)
    clear hb
    go_wp2_with ((refine wpList_store_row (o := ⟨none, _, _, _, _, _⟩) rfl 23 _ _ rfl (w.heap.size) #[.int .i64 1, .int .i64 (wrap64 (a + b)), .string ⟨#[]⟩] rfl rfl 23 _ B.out (by kernel_rfl) rfl (by simp [Value.oneCell']) ?_))
    have gr := grown_row w1 (w.heap.size) #[.int .i64 1, .int .i64 (wrap64 (a + b)), .string ⟨#[]⟩]
    refine bodyPost_ret (results_c1 rfl _ _ _ (w.heap.size) _ rfl (load23 (B.out.setRow (ds := #[.int .i64 1, .int .i64 (wrap64 (a + b)), .string ⟨#[]⟩])) rfl)) rfl ?_
    exact ⟨by rw [← HR.out]; rfl, HBw.grown gr HBw.size (fun j hj => by injection hj with hj; omega)⟩
  have e4 : (op == 4) = false := by simpa using h4
  by_cases h5 : op = 5
  · subst h5
    go_enter Try.func31, Try.ntmps31
    go_wp2_with fail
    refine (CI.out _ _).mono ?_
    rintro e w1 ⟨rfl, hb⟩
    have HBw := HB.out.trans (hb.mono HB.out.size)
    have B := Lib.hid (HK.out.below hb)
    clear hb
    go_wp2_with ((refine wpList_store_row (o := ⟨none, _, _, _, _, _⟩) rfl 23 _ _ rfl (w.heap.size) #[.int .i64 1, .int .i64 (wrap64 (a - b)), .string ⟨#[]⟩] rfl rfl 23 _ B.out (by kernel_rfl) rfl (by simp [Value.oneCell']) ?_))
    have gr := grown_row w1 (w.heap.size) #[.int .i64 1, .int .i64 (wrap64 (a - b)), .string ⟨#[]⟩]
    refine bodyPost_ret (results_c1 rfl _ _ _ (w.heap.size) _ rfl (load23 (B.out.setRow (ds := #[.int .i64 1, .int .i64 (wrap64 (a - b)), .string ⟨#[]⟩])) rfl)) rfl ?_
    exact ⟨by rw [← HR.out]; rfl, HBw.grown gr HBw.size (fun j hj => by injection hj with hj; omega)⟩
  have e5 : (op == 5) = false := by simpa using h5
  by_cases h6 : op = 6
  · subst h6
    go_enter Try.func31, Try.ntmps31
    go_wp2_with fail
    refine (CI.out _ _).mono ?_
    rintro e w1 ⟨rfl, hb⟩
    have HBw := HB.out.trans (hb.mono HB.out.size)
    have B := Lib.hid (HK.out.below hb)
    clear hb
    go_wp2_with ((refine wpList_store_row (o := ⟨none, _, _, _, _, _⟩) rfl 23 _ _ rfl (w.heap.size) #[.int .i64 1, .int .i64 (wrap64 (a * b)), .string ⟨#[]⟩] rfl rfl 23 _ B.out (by kernel_rfl) rfl (by simp [Value.oneCell']) ?_))
    have gr := grown_row w1 (w.heap.size) #[.int .i64 1, .int .i64 (wrap64 (a * b)), .string ⟨#[]⟩]
    refine bodyPost_ret (results_c1 rfl _ _ _ (w.heap.size) _ rfl (load23 (B.out.setRow (ds := #[.int .i64 1, .int .i64 (wrap64 (a * b)), .string ⟨#[]⟩])) rfl)) rfl ?_
    exact ⟨by rw [← HR.out]; rfl, HBw.grown gr HBw.size (fun j hj => by injection hj with hj; omega)⟩
  have e6 : (op == 6) = false := by simpa using h6
  by_cases hb1 : b < 1
  · go_enter Try.func31, Try.ntmps31
    go_wp2
    go_returns
    exact ⟨by rw [← HR.out, if_neg h4, if_neg h5, if_neg h6, if_pos hb1]; rfl, HB.out⟩
  have hbz : b ≠ 0 := by omega
  have hbz' : (b == 0) = false := by simpa using hbz
  by_cases hm : Int.tmod a b < 0
  · by_cases h7 : op = 7
    · subst h7
      go_enter Try.func31, Try.ntmps31
      go_wp2_with fail
      refine (CI.out _ _).mono ?_
      rintro e w1 ⟨rfl, hb⟩
      have HBw := HB.out.trans (hb.mono HB.out.size)
      have B := Lib.hid (HK.out.below hb)
      clear hb
      go_wp2_with ((refine wpList_store_row (o := ⟨none, _, _, _, _, _⟩) rfl 23 _ _ rfl (w.heap.size) #[.int .i64 1, .int .i64 (wrap64 (Int.tdiv a b - 1)), .string ⟨#[]⟩] rfl rfl 23 _ B.out (by kernel_rfl) rfl (by simp [Value.oneCell']) ?_))
      have gr := grown_row w1 (w.heap.size) #[.int .i64 1, .int .i64 (wrap64 (Int.tdiv a b - 1)), .string ⟨#[]⟩]
      refine bodyPost_ret (results_c1 rfl _ _ _ (w.heap.size) _ rfl (load23 (B.out.setRow (ds := #[.int .i64 1, .int .i64 (wrap64 (Int.tdiv a b - 1)), .string ⟨#[]⟩])) rfl)) rfl ?_
      exact ⟨by rw [← HR.out]; unfold qM; rw [if_neg (by omega : ¬ b < 1), if_pos hm]; rfl, HBw.grown gr HBw.size (fun j hj => by injection hj with hj; omega)⟩
    have e7 : (op == 7) = false := by simpa using h7
    by_cases h8 : op = 8
    · subst h8
      go_enter Try.func31, Try.ntmps31
      go_wp2_with fail
      refine (CI.out _ _).mono ?_
      rintro e w1 ⟨rfl, hb⟩
      have HBw := HB.out.trans (hb.mono HB.out.size)
      have B := Lib.hid (HK.out.below hb)
      clear hb
      go_wp2_with ((refine wpList_store_row (o := ⟨none, _, _, _, _, _⟩) rfl 23 _ _ rfl (w.heap.size) #[.int .i64 1, .int .i64 (wrap64 (a - wrap64 (b * wrap64 (Int.tdiv a b - 1)))), .string ⟨#[]⟩] rfl rfl 23 _ B.out (by kernel_rfl) rfl (by simp [Value.oneCell']) ?_))
      have gr := grown_row w1 (w.heap.size) #[.int .i64 1, .int .i64 (wrap64 (a - wrap64 (b * wrap64 (Int.tdiv a b - 1)))), .string ⟨#[]⟩]
      refine bodyPost_ret (results_c1 rfl _ _ _ (w.heap.size) _ rfl (load23 (B.out.setRow (ds := #[.int .i64 1, .int .i64 (wrap64 (a - wrap64 (b * wrap64 (Int.tdiv a b - 1)))), .string ⟨#[]⟩])) rfl)) rfl ?_
      exact ⟨by rw [← HR.out]; unfold qM; rw [if_neg (by omega : ¬ b < 1), if_pos hm]; rfl, HBw.grown gr HBw.size (fun j hj => by injection hj with hj; omega)⟩
    have e8 : (op == 8) = false := by simpa using h8
    go_enter Try.func31, Try.ntmps31
    go_wp2
    go_returns
    exact ⟨by rw [← HR.out, if_neg h4, if_neg h5, if_neg h6, if_neg (by omega : ¬ b < 1), if_neg h7, if_neg h8]; rfl, HB.out⟩
  by_cases h7 : op = 7
  · subst h7
    go_enter Try.func31, Try.ntmps31
    go_wp2_with fail
    refine (CI.out _ _).mono ?_
    rintro e w1 ⟨rfl, hb⟩
    have HBw := HB.out.trans (hb.mono HB.out.size)
    have B := Lib.hid (HK.out.below hb)
    clear hb
    go_wp2_with ((refine wpList_store_row (o := ⟨none, _, _, _, _, _⟩) rfl 23 _ _ rfl (w.heap.size) #[.int .i64 1, .int .i64 (Int.tdiv a b), .string ⟨#[]⟩] rfl rfl 23 _ B.out (by kernel_rfl) rfl (by simp [Value.oneCell']) ?_))
    have gr := grown_row w1 (w.heap.size) #[.int .i64 1, .int .i64 (Int.tdiv a b), .string ⟨#[]⟩]
    refine bodyPost_ret (results_c1 rfl _ _ _ (w.heap.size) _ rfl (load23 (B.out.setRow (ds := #[.int .i64 1, .int .i64 (Int.tdiv a b), .string ⟨#[]⟩])) rfl)) rfl ?_
    exact ⟨by rw [← HR.out]; unfold qM; rw [if_neg (by omega : ¬ b < 1), if_neg (by omega : ¬ Int.tmod a b < 0)]; rfl, HBw.grown gr HBw.size (fun j hj => by injection hj with hj; omega)⟩
  have e7 : (op == 7) = false := by simpa using h7
  by_cases h8 : op = 8
  · subst h8
    go_enter Try.func31, Try.ntmps31
    go_wp2_with fail
    refine (CI.out _ _).mono ?_
    rintro e w1 ⟨rfl, hb⟩
    have HBw := HB.out.trans (hb.mono HB.out.size)
    have B := Lib.hid (HK.out.below hb)
    clear hb
    go_wp2_with ((refine wpList_store_row (o := ⟨none, _, _, _, _, _⟩) rfl 23 _ _ rfl (w.heap.size) #[.int .i64 1, .int .i64 (wrap64 (a - wrap64 (b * Int.tdiv a b))), .string ⟨#[]⟩] rfl rfl 23 _ B.out (by kernel_rfl) rfl (by simp [Value.oneCell']) ?_))
    have gr := grown_row w1 (w.heap.size) #[.int .i64 1, .int .i64 (wrap64 (a - wrap64 (b * Int.tdiv a b))), .string ⟨#[]⟩]
    refine bodyPost_ret (results_c1 rfl _ _ _ (w.heap.size) _ rfl (load23 (B.out.setRow (ds := #[.int .i64 1, .int .i64 (wrap64 (a - wrap64 (b * Int.tdiv a b))), .string ⟨#[]⟩])) rfl)) rfl ?_
    exact ⟨by rw [← HR.out]; unfold qM; rw [if_neg (by omega : ¬ b < 1), if_neg (by omega : ¬ Int.tmod a b < 0)]; rfl, HBw.grown gr HBw.size (fun j hj => by injection hj with hj; omega)⟩
  have e8 : (op == 8) = false := by simpa using h8
  go_enter Try.func31, Try.ntmps31
  go_wp2
  go_returns
  exact ⟨by rw [← HR.out, if_neg h4, if_neg h5, if_neg h6, if_neg (by omega : ¬ b < 1), if_neg h7, if_neg h8]; rfl, HB.out⟩
end Go.Proofs.Ytfhbffgnpedaeaa
