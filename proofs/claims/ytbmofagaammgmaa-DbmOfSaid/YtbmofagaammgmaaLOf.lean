/- Law DbmOf: for every input the call returns true, and its arguments read afterwards as before. -/
import Derived.Test.YtbmofagaammgmaaDaw
import Derived.Test.YtbmofagaammgmaaDrf
import Derived.Test.YtbmofagaammgmaaDop
namespace Go.Proofs.Ytbmofagaammgmaa
open Go.ChangeShapes Go.WideShapes Go.ChangeAt Go.RowKit Go.ChangeMaps

set_option maxRecDepth 100000 in
set_option maxHeartbeats 4000000 in
theorem dbmOf_walk (k : Int) (A : Option Addr) (n c : Nat) (C : List (Int × Int)) (e : Bool) (m : Int) (w : World) (k0 : Cfs w A n C) (l0 : n ≤ 9223372036854775807) (l1 : -9223372036854775808 ≤ m) (g1 : m ≤ 9223372036854775807) :
    Calls Try.prog 9 #[.agg #[.int .i64 k, .slice A n c, .bool e], .int .i64 m] w fun e w' => e = .returned (.bool true) ∧ Below w.heap.size w w' := by
  obtain ⟨kb, hkb⟩ : ∃ kb, kb = w.heap.size := ⟨_, rfl⟩
  obtain ⟨W1, hW1⟩ : ∃ W1, W1 = w.alloc (.cells #[.int .i64 k, .slice A n c, .bool e] 52) := ⟨_, rfl⟩
  have HB1 := Lib.hid (show Below w.heap.size w W1 by rw [hW1]; exact (Below.refl _ _).alloc (Nat.le_refl _) _)
  have KB1 := Lib.hid (show Blk W1 kb 52 #[.int .i64 k, .slice A n c, .bool e] by rw [hW1]; exact Blk.new_ hkb rfl)
  have HC := Lib.hid k0
  clear k0
  go_enter Try.func9, Try.ntmps9
  go_wp2_with fail
  rw [← hkb, ← hW1]
  clear hkb hW1
  refine (awake_any W1).mono ?_
  rintro e1 w1 ⟨rfl, hb1⟩
  have HB2 := Lib.hid (HB1.out.trans (hb1.mono HB1.out.size))
  have KB2 := Lib.hid (KB1.out.below hb1)
  clear hb1 HB1 KB1
  have c0 : w1.cell? ⟨kb, 0, none⟩ = some (.int .i64 k) := KB2.out.cell 0
  have c1 : w1.cell? ⟨kb, 1, none⟩ = some (.slice A n c) := KB2.out.cell 1
  have c2 : w1.cell? ⟨kb, 2, none⟩ = some (.bool e) := KB2.out.cell 2
  by_cases hn : n ≤ 10
  · have hni : ¬ ((n : Int) > 10) := by omega
    go_wp2_with fail
    clear c0 c1 c2
    refine (Of_any A n c C k e m w1 (HC.out.below HB2.out) (by omega) l1 g1).mono ?_
    rintro e2 w2 ⟨rfl, hb2⟩
    have HB3 := Lib.hid (HB2.out.trans (hb2.mono HB2.out.size))
    have KB3 := Lib.hid (KB2.out.below hb2)
    clear hb2 HB2 KB2
    have c0 : w2.cell? ⟨kb, 0, none⟩ = some (.int .i64 k) := KB3.out.cell 0
    have c1 : w2.cell? ⟨kb, 1, none⟩ = some (.slice A n c) := KB3.out.cell 1
    have c2 : w2.cell? ⟨kb, 2, none⟩ = some (.bool e) := KB3.out.cell 2
    have CR := Lib.hid (ROf_any A n c C k e m w2 (HC.out.below HB3.out) (by omega) l1 g1)
    rw [← of_eq] at CR
    obtain ⟨r, hr⟩ : ∃ r, ofM C k e m = r := ⟨_, rfl⟩
    rw [hr] at CR ⊢
    clear hr
    cases r with
    | none =>
      unfold ofV
      dsimp only
      go_wp2_with fail
      clear c0 c1 c2
      refine CR.out.mono ?_
      rintro e3 w3 ⟨rfl, hb3⟩
      have HB4 := Lib.hid (HB3.out.trans (hb3.mono HB3.out.size))
      clear hb3 HB3 KB3 CR
      unfold rofV
      dsimp only
      go_wp2
      go_ret
      exact ⟨rfl, HB4.out.alloc HB4.out.size _⟩
    | some p =>
      obtain ⟨x, y, z⟩ := p
      unfold ofV
      dsimp only
      go_wp2_with fail
      clear c0 c1 c2
      refine CR.out.mono ?_
      rintro e3 w3 ⟨rfl, hb3⟩
      have HB4 := Lib.hid (HB3.out.trans (hb3.mono HB3.out.size))
      clear hb3 HB3 KB3 CR
      unfold rofV
      dsimp only
      go_wp2
      go_ret
      exact ⟨rfl, HB4.out.alloc HB4.out.size _⟩
  · have hni : (n : Int) > 10 := by omega
    go_wp2
    go_ret
    exact ⟨rfl, HB2.out⟩

set_option maxRecDepth 100000 in
theorem dbmOf_lifted (os : Os) (started : os.Started) (H : Type) (enc : TypeId × Value → H) :
    ReturnsInHanded {} Try.checked os 9 .any (Rows.dbmOfSpec.pre6 enc Try.prog Try.f9 Rows.dbmOfRow.domain false) (Rows.dbmOfSpec.post enc Try.prog Try.f9 false true false false) := by
  refine law_lifted (C := Try.checked) (B := 4) Try.own started (by kernel_rfl) Try.func9
    (ChangeSpec.witness6 (enc := enc) (C := Try.checked) false ⟨#[], #[.agg #[.int .i64 0, .slice none 0 0, .bool false], .int .i64 0], []⟩ 8 (by kernel_rfl) (by kernel_rfl) (by kernel_rfl) (by kernel_rfl))
    Try.laidOut (by kernel_rfl) rfl rfl rfl Try.underlying4 (fun ds h => match ds, h with | [_, _], _ => rfl) ?_
  intro W base args ds ps hval hA hlt hsz
  rw [Try.params9] at hA hval hsz
  obtain ⟨v0, vs0, d0, ds0, p0, q0, hargs, rfl, rfl, h0, r0⟩ := trodAll_cons hA
  obtain ⟨v1, vs1, d1, ds1, p1, q1, rfl, rfl, rfl, h1, r1⟩ := trodAll_cons r0
  obtain ⟨rfl, rfl, rfl⟩ := trodAll_nil r1
  obtain rfl : args = #[v0, v1] := by cases args; simp_all
  obtain ⟨x0, A0, n0, c0, R0, e0, rfl, k0, l0⟩ := open_con (hval 0 52 v0 rfl rfl) h0 (fun x hx => hlt x (by simp [hx])) hsz (j := 0) rfl rfl
  obtain ⟨a1, rfl, rfl, rfl, w1⟩ := open_int Try.underlying3 (hval 1 3 v1 rfl rfl) h1
  obtain ⟨l1, g1⟩ := i64_bd w1
  exact dbmOf_walk x0 A0 n0 c0 R0 e0 a1 W k0 l0 l1 g1

theorem dbmOf_over : Rows.dbmOfRow.holds Try.pinned (OpenSpec.ofChange Rows.dbmOfSpec) :=
  OpenClaim.holds_of_wide 9 Try.f9 rfl rfl rfl rfl rfl rfl rfl ⟨rfl, rfl, rfl, rfl, rfl⟩ rfl rfl rfl rfl rfl (by kernel_rfl) Try.func9 (by kernel_rfl)
    (of_decide_eq_true (by kernel_rfl)) (by unfold Func.isWrapper; first | (rw [if_pos (by decide +kernel)]; kernel_rfl) | (rw [if_neg (by decide +kernel)]; exact ⟨rfl, rfl⟩))
    (fun os started H enc _ => dbmOf_lifted os started H enc)

theorem dbmOf_proved : Rows.DbmOfSaid := dbmOf_over
end Go.Proofs.Ytbmofagaammgmaa
