/- Law DbmChain: for every input the call returns true, and its arguments read afterwards as before. -/
import Derived.Test.YtbmofagaammgmaaDch
import Derived.Test.YtbmofagaammgmaaDop
import Derived.Deep.Cut
namespace Go.Proofs.Ytbmofagaammgmaa
open Go.ChangeShapes Go.WideShapes Go.ChangeAt Go.RowKit Go.ChangeMaps

theorem Try.cells61 : Try.prog.cellsOf 61 = 1 := by kernel_rfl
open Go.Deep Go.WideElems in
theorem open_i16s {H : Type} {enc : TypeId × Value → H} {W : World} {r : Reach} {b0 : Nat} {v : Value} {d : DataW H} {p : List MemPlace}
    (hv : Value.okWide Try.prog W r b0 58 v) (h : DataW.Trod enc Try.prog W 0 (fun _ => true) true 58 v d p) (hlt : ∀ x ∈ p, x.block < W.heap.size) :
    ∃ (A : Option Addr) (n c : Nat) (zs : List Int), v = .slice A n c ∧ At W A n 1 (ic .i16 zs) ∧ n ≤ 9223372036854775807 ∧ ∀ z ∈ zs, -32768 ≤ z ∧ z ≤ 32767 := by
  obtain ⟨a0, len, cap, rfl⟩ := okWide_slice Try.underlying58 hv
  obtain ⟨fuel, hf⟩ := h
  rcases open_ints Try.underlying58 Try.underlying61 Try.cells61 hf with ⟨hcs, hx⟩ | ⟨a, len', cap', zs, hcs, _, hl, hm, hz, hx, hcell, hwz⟩
  · simp [Value.cells] at hcs
    obtain ⟨rfl, rfl, rfl⟩ := hcs
    exact ⟨_, _, _, [], rfl, ⟨rfl, fun h => absurd h (by omega)⟩, by omega, fun x hx => by cases hx⟩
  · simp [Value.cells] at hcs
    obtain ⟨rfl, rfl, rfl⟩ := hcs
    simp only [if_true] at hz
    simp only [Prod.mk.injEq] at hx
    obtain ⟨rfl, rfl⟩ := hx
    unfold maxLen at hm
    refine ⟨_, _, _, zs.take len, rfl, ⟨by rw [ic_len, List.length_take]; omega, fun hn => ?_⟩, by omega, fun z hz2 => i16_bdx (hwz z (List.mem_of_mem_take hz2))⟩
    obtain ⟨b, off, spot⟩ := a
    have hspot : spot = none := by simpa [Addr.add] using World.cell?_spot (hcell 0 (by omega))
    subst hspot
    refine ⟨b, off, rfl, hlt (.cell b off) (MemPlace.mem_row.2 ⟨0, by omega, by simp⟩), fun j u hu => ?_⟩
    have hj : j < (zs.take len).length := by have := (List.getElem?_eq_some_iff.1 hu).1; rwa [ic_len] at this
    have hj2 : j < zs.length := by rw [List.length_take] at hj; omega
    rw [ic_get _ _ _ hj] at hu
    injection hu with hu
    subst hu
    have := hcell j hj2
    rw [add_plain] at this
    rw [this]
    have hjl : j < len := by rw [List.length_take] at hj; omega
    simp [List.getD, List.getElem?_take, hjl, List.getElem?_eq_getElem hj2]
theorem sum_bd : ∀ (L : List Int), (∀ z ∈ L, -32768 ≤ z ∧ z ≤ 32767) → -((L.length : Int) * 32768) ≤ L.sum ∧ L.sum ≤ (L.length : Int) * 32768
  | [], _ => by simp
  | x :: r, h => by
    have h1 := sum_bd r (fun z hz => h z (List.mem_cons_of_mem _ hz))
    have h2 := h x List.mem_cons_self
    rw [List.sum_cons, List.length_cons]
    omega
theorem sum_take {L : List Int} {k : Nat} (h : k < L.length) : (L.take (k + 1)).sum = (L.take k).sum + L.getD k 0 := by
  rw [List.take_succ_eq_append_getElem h, List.sum_append]
  simp [List.getD, List.getElem?_eq_getElem h]
set_option maxRecDepth 100000 in
set_option maxHeartbeats 4000000 in
theorem dbmChain_walk (A : Option Addr) (n c : Nat) (L : List Int) (w : World) (k0 : At w A n 1 (ic .i16 L)) (l0 : n ≤ 9223372036854775807) (g0 : ∀ z ∈ L, -32768 ≤ z ∧ z ≤ 32767) :
    Calls Try.prog 10 #[.slice A n c] w fun e w' => e = .returned (.bool true) ∧ Below w.heap.size w w' := by
  have hLn : L.length = n := by have := k0.1; rw [ic_len] at this; omega
  have HK := Lib.hid k0.2
  have HG := Lib.hid g0
  have HLN := Lib.hid hLn
  clear k0 g0 hLn
  go_enter Try.func10, Try.ntmps10
  go_wp2_with fail
  refine (awake_any w).mono ?_
  rintro e1 w1 ⟨rfl, hb1⟩
  have HB1 := Lib.hid hb1
  clear hb1
  by_cases h1 : n < 1
  · have h1' : (n : Int) < 1 := by omega
    go_wp2
    go_ret
    exact ⟨rfl, HB1.out⟩
  by_cases h2 : n > 64
  · have h1' : ¬ (n : Int) < 1 := by omega
    have h2' : (n : Int) > 64 := by omega
    go_wp2
    go_ret
    exact ⟨rfl, HB1.out⟩
  have h1' : ¬ (n : Int) < 1 := by omega
  have h2' : ¬ (n : Int) > 64 := by omega
  go_wp2_with fail
  refine (New_any w1 n (by omega)).mono ?_
  rintro e2 w2 ⟨g, rfl, hm, hb2⟩
  have HM2 := Lib.hid hm
  have HB2 := Lib.hid hb2
  clear hm hb2
  go_wp2
  go_loopw [6, 34] (fun s6 s34 wr => ∃ k : Nat, s34 = .int .i64 (k : Int) ∧ s6 = .int .i64 (L.take k).sum ∧ k ≤ n ∧ MX wr w1.heap.size g n (chS L k) ∧ Below w1.heap.size w1 wr) (fun _ s34 _ => n - (intOf s34).toNat)
  case atStart => exact ⟨0, rfl, rfl, Nat.zero_le _, HM2.out, HB2.out⟩
  case round =>
    obtain ⟨k, rfl, rfl, hkn, hM, hB⟩ := hrel
    have HM := Lib.hid hM
    have HB := Lib.hid hB
    clear hM hB
    have hsb := sum_bd (L.take k) (fun z hz => HG.out z (List.mem_of_mem_take hz))
    rw [show (L.take k).length = k by rw [List.length_take]; have := HLN.out; omega] at hsb
    by_cases hlt : k < n
    · have hki : (k : Int) < n := by omega
      have hk0 : (0 : Int) ≤ (k : Int) := by omega
      have hkL : k < L.length := by rw [HLN.out]; exact hlt
      obtain ⟨b, off, rfl, hbl, hc⟩ := HK.out (by omega)
      have hcl := hc k _ (ic_get .i16 L k hkL)
      have c0 : wr.cell? ⟨b, off + k, none⟩ = some (.int .i16 (L.getD k 0)) := keepcell (HB1.out.trans (HB.out.mono HB1.out.size)) hcl
      have hzb : -32768 ≤ L.getD k 0 ∧ L.getD k 0 ≤ 32767 := by
        have : L.getD k 0 = L[k] := by simp [List.getD, List.getElem?_eq_getElem hkL]
        rw [this]
        exact HG.out _ (List.getElem_mem hkL)
      have HST := Lib.hid (sum_take hkL)
      have HCH := Lib.hid (show addX (chS L k) n (k : Int) ((k : Int) + 1) (L.getD k 0) = chS L (k + 1) from (addX_eq (addE_zero (by omega) (by omega) (by omega))).trans rfl)
      have HE0 := Lib.hid (show addE n (k : Int) ((k : Int) + 1) (L.getD k 0) = 0 from addE_zero (by omega) (by omega) (by omega))
      clear hcl hc hbl
      obtain ⟨z, hz⟩ : ∃ z, L.getD k 0 = z := ⟨_, rfl⟩
      obtain ⟨sm, hsm⟩ : ∃ sm, (L.take k).sum = sm := ⟨_, rfl⟩
      rw [hz] at c0 hzb HST HCH HE0
      rw [hsm] at hsb HST ⊢
      clear hz hsm
      have hwz : IntKind.i64.wrap z = z := IntWalk.i64_in _ (by omega)
      have hws : IntKind.i64.wrap (sm + z) = sm + z := IntWalk.i64_in _ (by omega)
      have hwk : IntKind.i64.wrap ((k : Int) + 1) = (k : Int) + 1 := IntWalk.i64_in _ (by omega)
      go_wp2_with fail
      clear c0
      refine (Add_any wr w1.heap.size g n _ HM.out (k : Int) ((k : Int) + 1) z (by rw [chS_a]; omega)).mono ?_
      rintro e3 w3 ⟨he, hm, -, hb⟩
      rw [HE0.out] at he
      subst he
      rw [HCH.out] at hm
      have HM3 := Lib.hid hm
      have HB3 := Lib.hid (hb _ HB.out)
      clear hm hb HM HB
      go_wp2
      go_roundw
      case rel => exact ⟨k + 1, by go_num, by rw [HST.out], hlt, HM3.out, HB3.out⟩
      case measure => simp [intOf]; omega
    · obtain rfl : n = k := by omega
      have hlt2 : ¬ ((n : Int) < (n : Int)) := by omega
      have HTK := Lib.hid (show L.take n = L from List.take_of_length_le (by rw [HLN.out]; exact Nat.le_refl _))
      have HBD := Lib.hid (show bndM (chS L n) n 0 (n : Int) = some (L.take n).sum by
        rw [HTK.out, ← HLN.out]
        exact ch_bnd L)
      have HSA := Lib.hid (show Sat (chS L n) n by rw [← HLN.out]; exact ch_sat L)
      have HCC := Lib.hid (show addX (chS L n) n (n : Int) 0 (-(L.take n).sum - 1) = chC L by
        rw [addX_eq (addE_zero (by omega) (by omega) (by omega)), HTK.out, ← HLN.out]
        rfl)
      have HE0 := Lib.hid (show addE n (n : Int) 0 (-(L.take n).sum - 1) = 0 from addE_zero (by omega) (by omega) (by omega))
      have HUN := Lib.hid (show Uns (chC L) n by rw [← HLN.out]; exact chC_uns (by rw [HLN.out]; omega))
      have HLE := Lib.hid (show ∀ nd : Nat → Nat, Nds (chC L) (n + 1) nd → ∀ i j : Nat, j < i → i ≤ n + 1 → nd i = nd j → i - j = n + 1 by rw [← HLN.out]; exact fun nd h i j => chC_len h)
      obtain ⟨sm, hsm⟩ : ∃ sm, (L.take n).sum = sm := ⟨_, rfl⟩
      rw [hsm] at hsb HBD HCC HE0 ⊢
      clear hsm HTK
      have hw1 : IntKind.i64.wrap (-sm) = -sm := IntWalk.i64_in _ (by omega)
      have hw2 : IntKind.i64.wrap (-sm - 1) = -sm - 1 := IntWalk.i64_in _ (by omega)
      have hw3 : IntKind.i64.wrap ((n : Int) + 1) = (n : Int) + 1 := IntWalk.i64_in _ (by omega)
      go_wp2_with fail
      refine (Bound_any wr w1.heap.size g n _ HM.out 0 (n : Int)).mono ?_
      rintro e4 w4 ⟨rfl, hb⟩
      rw [HBD.out]
      have HM4 := Lib.hid (HM.out.below hb)
      have HB4 := Lib.hid (HB.out.trans (hb.mono HB.out.size))
      clear hb HM HB
      unfold bdA
      dsimp only [Option.getD_some, Option.isSome_some]
      go_wp2_with fail
      refine (Sat_sat w4 w1.heap.size g n _ HM4.out HSA.out).mono ?_
      rintro e5 w5 ⟨rfl, hb⟩
      have HM5 := Lib.hid (HM4.out.below hb)
      have HB5 := Lib.hid (HB4.out.trans (hb.mono HB4.out.size))
      clear hb HM4 HB4
      go_wp2_with fail
      refine (Add_any w5 w1.heap.size g n _ HM5.out (n : Int) 0 (-sm - 1) (by rw [chS_a]; omega)).mono ?_
      rintro e6 w6 ⟨he, hm, -, hb⟩
      rw [HE0.out] at he
      subst he
      rw [HCC.out] at hm
      have HM6 := Lib.hid hm
      have HB6 := Lib.hid (hb _ HB5.out)
      clear hm hb HM5 HB5
      go_wp2_with fail
      refine (Sat_uns w6 w1.heap.size g n _ HM6.out HUN.out).mono ?_
      rintro e7 w7 ⟨rfl, hb⟩
      have HM7 := Lib.hid (HM6.out.below hb)
      have HB7 := Lib.hid (HB6.out.trans (hb.mono HB6.out.size))
      clear hb HM6 HB6
      go_wp2_with fail
      refine (Cycle_uns w7 w1.heap.size g n _ HM7.out HUN.out).mono ?_
      rintro e8 w8 ⟨nd, A', m, c', i, j, rfl, hN, hji, hi, hnd, -, hm, -, hb⟩
      have hmn : m = n + 1 := by rw [hm]; exact HLE.out _ hN _ _ hji hi hnd
      subst hmn
      have HB8 := Lib.hid (HB7.out.trans (hb.mono HB7.out.size))
      clear hb HM7 HB7 hN hji hi hnd hm
      go_wp2
      go_ret
      exact ⟨by simp, HB1.out.trans (HB8.out.mono HB1.out.size)⟩

set_option maxRecDepth 100000 in
theorem dbmChain_lifted (os : Os) (started : os.Started) (H : Type) (enc : TypeId × Value → H) :
    ReturnsInHanded {} Try.checked os 10 .any (Rows.dbmChainSpec.pre6 enc Try.prog Try.f10 Rows.dbmChainRow.domain false) (Rows.dbmChainSpec.post enc Try.prog Try.f10 false true false false) := by
  refine law_lifted (C := Try.checked) (B := 4) Try.own started (by kernel_rfl) Try.func10
    (ChangeSpec.witness6 (enc := enc) (C := Try.checked) false ⟨#[], #[.slice none 0 0], []⟩ 8 (by kernel_rfl) (by kernel_rfl) (by kernel_rfl) (by kernel_rfl))
    Try.laidOut (by kernel_rfl) rfl rfl rfl Try.underlying4 (fun ds h => match ds, h with | [_], _ => rfl) ?_
  intro W base args ds ps hval hA hlt hsz
  rw [Try.params10] at hA hval hsz
  obtain ⟨v0, vs0, d0, ds0, p0, q0, hargs, rfl, rfl, h0, r0⟩ := trodAll_cons hA
  obtain ⟨rfl, rfl, rfl⟩ := trodAll_nil r0
  obtain rfl : args = #[v0] := by cases args; simp_all
  obtain ⟨A0, n0, c0, R0, rfl, k0, l0, g0⟩ := open_i16s (hval 0 58 v0 rfl rfl) h0 (fun x hx => hlt x (by simp [hx]))
  exact dbmChain_walk A0 n0 c0 R0 W k0 l0 g0

theorem dbmChain_over : Rows.dbmChainRow.holds Try.pinned (OpenSpec.ofChange Rows.dbmChainSpec) :=
  OpenClaim.holds_of_wide 10 Try.f10 rfl rfl rfl rfl rfl rfl rfl ⟨rfl, rfl, rfl, rfl, rfl⟩ rfl rfl rfl rfl rfl (by kernel_rfl) Try.func10 (by kernel_rfl)
    (of_decide_eq_true (by kernel_rfl)) (by unfold Func.isWrapper; first | (rw [if_pos (by decide +kernel)]; kernel_rfl) | (rw [if_neg (by decide +kernel)]; exact ⟨rfl, rfl⟩))
    (fun os started H enc _ => dbmChain_lifted os started H enc)

theorem dbmChain_proved : Rows.DbmChainSaid := dbmChain_over
end Go.Proofs.Ytbmofagaammgmaa
