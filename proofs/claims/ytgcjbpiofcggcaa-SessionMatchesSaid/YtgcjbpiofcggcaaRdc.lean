/- The reference of a session: Do 1. -/
import Derived.Test.YtgcjbpiofcggcaaRdb
namespace Go.Proofs.Ytgcjbpiofcggcaa
open Go.ChangeShapes Go.WideShapes Go.ChangeAt Go.RowKit Go.ChangeMaps

set_option maxRecDepth 100000 in
set_option maxHeartbeats 2000000 in
theorem RDo_1y (A : Option Addr) (n c : Nat) (K : List Int) (w : World) (hr : At w A n 1 (ic .i64 K)) (hn : n ≤ 300000000000) (num cur ex : Nat) (hc : cur ≤ 300000000000) (he : ex ≤ 300000000000) (hres : cur < (splitM K).length) :
    Calls Try.prog 19 #[.agg #[.int .i64 (num : Int), .slice A n c, .int .i64 (cur : Int), .int .i64 (ex : Int)], .int .i64 1] w fun e w' => e = .returned (.agg #[.int .i64 (num : Int), .slice A n c, .int .i64 (cur : Int), .int .i64 0]) ∧ Below w.heap.size w w' := by
  have HR := Lib.hid hr
  have HT := Lib.hid (show (splitM K).length ≤ n by have := splitM_len K; rw [hr.int] at this; exact this)
  obtain ⟨i, ok, hnx⟩ : ∃ i ok, nx K cur ex = (i, ok) := ⟨_, _, rfl⟩
  have HN := Lib.hid hnx
  have HH := Lib.hid hres
  clear hr hnx hres
  go_enter Try.func19, Try.ntmps19
  go_wp2_with fail
  refine (RNext_any A n c K _ ((HR.out.alloc _).alloc _) hn num cur ex hc he i ok HN.out).mono ?_
  rintro e w2 ⟨rfl, hb⟩
  have HW := Lib.hid ((((Below.refl _ w).alloc (Nat.le_refl _) (.cells #[.int .i64 (num : Int), .slice A n c, .int .i64 (cur : Int), .int .i64 (ex : Int)] 36)).alloc (by simp) (.cells #[.int .i64 0, .slice none 0 0, .int .i64 0, .int .i64 0] 36)).trans (hb.mono (by simp; omega)))
  have KA : Hid (Blk w2 w.heap.size 36 #[.int .i64 (num : Int), .slice A n c, .int .i64 (cur : Int), .int .i64 (ex : Int)]) := Lib.hid (((Blk.new w 36 _).alloc _).below hb)
  have KZ : Hid (Blk w2 (w.heap.size + 1) 36 #[.int .i64 0, .slice none 0 0, .int .i64 0, .int .i64 0]) := Lib.hid ((Blk.new_ (by simp) rfl).below hb)
  have a0 : w2.cell? ⟨w.heap.size, 0, none⟩ = some (.int .i64 (num : Int)) := KA.out.cell 0
  have z0 : w2.cell? ⟨w.heap.size + 1, 0, none⟩ = some (.int .i64 0) := KZ.out.cell 0
  have q0 : w2.frozen? ⟨w.heap.size + 1, 0, none⟩ = false := Joins.unfrozen_of_block KZ.out 0
  have a1 : w2.cell? ⟨w.heap.size, 1, none⟩ = some (.slice A n c) := KA.out.cell 1
  have z1 : w2.cell? ⟨w.heap.size + 1, 1, none⟩ = some (.slice none 0 0) := KZ.out.cell 1
  have q1 : w2.frozen? ⟨w.heap.size + 1, 1, none⟩ = false := Joins.unfrozen_of_block KZ.out 1
  have a2 : w2.cell? ⟨w.heap.size, 2, none⟩ = some (.int .i64 (cur : Int)) := KA.out.cell 2
  have z2 : w2.cell? ⟨w.heap.size + 1, 2, none⟩ = some (.int .i64 0) := KZ.out.cell 2
  have q2 : w2.frozen? ⟨w.heap.size + 1, 2, none⟩ = false := Joins.unfrozen_of_block KZ.out 2
  have a3 : w2.cell? ⟨w.heap.size, 3, none⟩ = some (.int .i64 (ex : Int)) := KA.out.cell 3
  have z3 : w2.cell? ⟨w.heap.size + 1, 3, none⟩ = some (.int .i64 0) := KZ.out.cell 3
  have q3 : w2.frozen? ⟨w.heap.size + 1, 3, none⟩ = false := Joins.unfrozen_of_block KZ.out 3
  have p2 : w2.frozen? ⟨w.heap.size, 2, none⟩ = false := Joins.unfrozen_of_block KA.out 2
  have p3 : w2.frozen? ⟨w.heap.size, 3, none⟩ = false := Joins.unfrozen_of_block KA.out 3
  have HB2 := Lib.hid hb
  clear hb
  have HD : Hid (decide ((splitM K).length ≤ cur) = false) := Lib.hid (by have := HH.out; simp; omega)
  go_wp2_with fail
  refine (RDone_any A n c K _ (HR.out.below (HW.out)) hn num cur ex hc false HD.out).mono ?_
  rintro e w3 ⟨rfl, hb⟩
  clear a0 a1 a2 a3 z0 z1 z2 z3 q0 q1 q2 q3 p2 p3 HB2
  have HW := Lib.hid (more_below HW.out hb)
  have KA := Lib.hid (KA.out.below hb)
  have KZ := Lib.hid (KZ.out.below hb)
  have a0 : w3.cell? ⟨w.heap.size, 0, none⟩ = some (.int .i64 (num : Int)) := KA.out.cell 0
  have z0 : w3.cell? ⟨w.heap.size + 1, 0, none⟩ = some (.int .i64 0) := KZ.out.cell 0
  have q0 : w3.frozen? ⟨w.heap.size + 1, 0, none⟩ = false := Joins.unfrozen_of_block KZ.out 0
  have a1 : w3.cell? ⟨w.heap.size, 1, none⟩ = some (.slice A n c) := KA.out.cell 1
  have z1 : w3.cell? ⟨w.heap.size + 1, 1, none⟩ = some (.slice none 0 0) := KZ.out.cell 1
  have q1 : w3.frozen? ⟨w.heap.size + 1, 1, none⟩ = false := Joins.unfrozen_of_block KZ.out 1
  have a2 : w3.cell? ⟨w.heap.size, 2, none⟩ = some (.int .i64 (cur : Int)) := KA.out.cell 2
  have z2 : w3.cell? ⟨w.heap.size + 1, 2, none⟩ = some (.int .i64 0) := KZ.out.cell 2
  have q2 : w3.frozen? ⟨w.heap.size + 1, 2, none⟩ = false := Joins.unfrozen_of_block KZ.out 2
  have a3 : w3.cell? ⟨w.heap.size, 3, none⟩ = some (.int .i64 (ex : Int)) := KA.out.cell 3
  have z3 : w3.cell? ⟨w.heap.size + 1, 3, none⟩ = some (.int .i64 0) := KZ.out.cell 3
  have q3 : w3.frozen? ⟨w.heap.size + 1, 3, none⟩ = false := Joins.unfrozen_of_block KZ.out 3
  have p2 : w3.frozen? ⟨w.heap.size, 2, none⟩ = false := Joins.unfrozen_of_block KA.out 2
  have p3 : w3.frozen? ⟨w.heap.size, 3, none⟩ = false := Joins.unfrozen_of_block KA.out 3
  clear hb
  go_wp2_with fail
  refine bodyPost_ret (res19 _ (w.heap.size + 1) #[.int .i64 (num : Int), .slice A n c, .int .i64 (cur : Int), .int .i64 0] _ (((((KZ.out.set_other (by omega)).set_ 0 _).set_ 1 _).set_ 2 _).set_ 3 _) size36 rfl) rfl ⟨?_, below_set4 (below_set HW.out (Nat.le_refl _) HW.out.size) (by omega) (by first | exact HW.out.size | (simp [World.setCell]; exact HW.out.size))⟩
  rfl
set_option maxRecDepth 100000 in
set_option maxHeartbeats 2000000 in
theorem RDo_1n (A : Option Addr) (n c : Nat) (K : List Int) (w : World) (hr : At w A n 1 (ic .i64 K)) (hn : n ≤ 300000000000) (num cur ex : Nat) (hc : cur ≤ 300000000000) (he : ex ≤ 300000000000) (hres : ¬ cur < (splitM K).length) :
    Calls Try.prog 19 #[.agg #[.int .i64 (num : Int), .slice A n c, .int .i64 (cur : Int), .int .i64 (ex : Int)], .int .i64 1] w fun e w' => e = .returned (.agg #[.int .i64 (num : Int), .slice A n c, .int .i64 (cur : Int), .int .i64 (ex : Int)]) ∧ Below w.heap.size w w' := by
  have HR := Lib.hid hr
  have HT := Lib.hid (show (splitM K).length ≤ n by have := splitM_len K; rw [hr.int] at this; exact this)
  obtain ⟨i, ok, hnx⟩ : ∃ i ok, nx K cur ex = (i, ok) := ⟨_, _, rfl⟩
  have HN := Lib.hid hnx
  have HH := Lib.hid hres
  clear hr hnx hres
  go_enter Try.func19, Try.ntmps19
  go_wp2_with fail
  refine (RNext_any A n c K _ ((HR.out.alloc _).alloc _) hn num cur ex hc he i ok HN.out).mono ?_
  rintro e w2 ⟨rfl, hb⟩
  have HW := Lib.hid ((((Below.refl _ w).alloc (Nat.le_refl _) (.cells #[.int .i64 (num : Int), .slice A n c, .int .i64 (cur : Int), .int .i64 (ex : Int)] 36)).alloc (by simp) (.cells #[.int .i64 0, .slice none 0 0, .int .i64 0, .int .i64 0] 36)).trans (hb.mono (by simp; omega)))
  have KA : Hid (Blk w2 w.heap.size 36 #[.int .i64 (num : Int), .slice A n c, .int .i64 (cur : Int), .int .i64 (ex : Int)]) := Lib.hid (((Blk.new w 36 _).alloc _).below hb)
  have KZ : Hid (Blk w2 (w.heap.size + 1) 36 #[.int .i64 0, .slice none 0 0, .int .i64 0, .int .i64 0]) := Lib.hid ((Blk.new_ (by simp) rfl).below hb)
  have a0 : w2.cell? ⟨w.heap.size, 0, none⟩ = some (.int .i64 (num : Int)) := KA.out.cell 0
  have z0 : w2.cell? ⟨w.heap.size + 1, 0, none⟩ = some (.int .i64 0) := KZ.out.cell 0
  have q0 : w2.frozen? ⟨w.heap.size + 1, 0, none⟩ = false := Joins.unfrozen_of_block KZ.out 0
  have a1 : w2.cell? ⟨w.heap.size, 1, none⟩ = some (.slice A n c) := KA.out.cell 1
  have z1 : w2.cell? ⟨w.heap.size + 1, 1, none⟩ = some (.slice none 0 0) := KZ.out.cell 1
  have q1 : w2.frozen? ⟨w.heap.size + 1, 1, none⟩ = false := Joins.unfrozen_of_block KZ.out 1
  have a2 : w2.cell? ⟨w.heap.size, 2, none⟩ = some (.int .i64 (cur : Int)) := KA.out.cell 2
  have z2 : w2.cell? ⟨w.heap.size + 1, 2, none⟩ = some (.int .i64 0) := KZ.out.cell 2
  have q2 : w2.frozen? ⟨w.heap.size + 1, 2, none⟩ = false := Joins.unfrozen_of_block KZ.out 2
  have a3 : w2.cell? ⟨w.heap.size, 3, none⟩ = some (.int .i64 (ex : Int)) := KA.out.cell 3
  have z3 : w2.cell? ⟨w.heap.size + 1, 3, none⟩ = some (.int .i64 0) := KZ.out.cell 3
  have q3 : w2.frozen? ⟨w.heap.size + 1, 3, none⟩ = false := Joins.unfrozen_of_block KZ.out 3
  have p2 : w2.frozen? ⟨w.heap.size, 2, none⟩ = false := Joins.unfrozen_of_block KA.out 2
  have p3 : w2.frozen? ⟨w.heap.size, 3, none⟩ = false := Joins.unfrozen_of_block KA.out 3
  have HB2 := Lib.hid hb
  clear hb
  have HD : Hid (decide ((splitM K).length ≤ cur) = true) := Lib.hid (by have := HH.out; simp; omega)
  go_wp2_with fail
  refine (RDone_any A n c K _ (HR.out.below (HW.out)) hn num cur ex hc true HD.out).mono ?_
  rintro e w3 ⟨rfl, hb⟩
  clear a0 a1 a2 a3 z0 z1 z2 z3 q0 q1 q2 q3 p2 p3 HB2
  have HW := Lib.hid (more_below HW.out hb)
  have KA := Lib.hid (KA.out.below hb)
  have KZ := Lib.hid (KZ.out.below hb)
  have a0 : w3.cell? ⟨w.heap.size, 0, none⟩ = some (.int .i64 (num : Int)) := KA.out.cell 0
  have z0 : w3.cell? ⟨w.heap.size + 1, 0, none⟩ = some (.int .i64 0) := KZ.out.cell 0
  have q0 : w3.frozen? ⟨w.heap.size + 1, 0, none⟩ = false := Joins.unfrozen_of_block KZ.out 0
  have a1 : w3.cell? ⟨w.heap.size, 1, none⟩ = some (.slice A n c) := KA.out.cell 1
  have z1 : w3.cell? ⟨w.heap.size + 1, 1, none⟩ = some (.slice none 0 0) := KZ.out.cell 1
  have q1 : w3.frozen? ⟨w.heap.size + 1, 1, none⟩ = false := Joins.unfrozen_of_block KZ.out 1
  have a2 : w3.cell? ⟨w.heap.size, 2, none⟩ = some (.int .i64 (cur : Int)) := KA.out.cell 2
  have z2 : w3.cell? ⟨w.heap.size + 1, 2, none⟩ = some (.int .i64 0) := KZ.out.cell 2
  have q2 : w3.frozen? ⟨w.heap.size + 1, 2, none⟩ = false := Joins.unfrozen_of_block KZ.out 2
  have a3 : w3.cell? ⟨w.heap.size, 3, none⟩ = some (.int .i64 (ex : Int)) := KA.out.cell 3
  have z3 : w3.cell? ⟨w.heap.size + 1, 3, none⟩ = some (.int .i64 0) := KZ.out.cell 3
  have q3 : w3.frozen? ⟨w.heap.size + 1, 3, none⟩ = false := Joins.unfrozen_of_block KZ.out 3
  have p2 : w3.frozen? ⟨w.heap.size, 2, none⟩ = false := Joins.unfrozen_of_block KA.out 2
  have p3 : w3.frozen? ⟨w.heap.size, 3, none⟩ = false := Joins.unfrozen_of_block KA.out 3
  clear hb
  go_wp2_with fail
  refine bodyPost_ret (res19 _ (w.heap.size + 1) #[.int .i64 (num : Int), .slice A n c, .int .i64 (cur : Int), .int .i64 (ex : Int)] _ ((((KZ.out.set_ 0 _).set_ 1 _).set_ 2 _).set_ 3 _) size36 rfl) rfl ⟨?_, below_set4 HW.out (by omega) (by first | exact HW.out.size | (simp [World.setCell]; exact HW.out.size))⟩
  rfl
end Go.Proofs.Ytgcjbpiofcggcaa
