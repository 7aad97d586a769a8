/- Free ranges; the examples. -/
import Derived.Test.YtgpofkabidginaaWlx
namespace Go.Proofs.Ytgpofkabidginaa
open Go.ChangeShapes Go.WideShapes Go.ChangeAt Go.RowKit Go.ChangeMaps

def freeP (s : St) (x : Cs) : Prop := mayB (s.R.length : Nat) x.F x.C (x.E : Int) = true ∧ ∀ i : Nat, x.F ≤ (i : Int) → (i : Int) < x.F + x.C → ends (s.R.getD i []) ≠ x.E
set_option maxRecDepth 100000 in
set_option maxHeartbeats 1000000 in
theorem free14_any (F4' : Nat → Prop) (w : World) (x : Cs) (h : CsAt w x) (r t : Nat) (s : St) (hr : Rk F4' w r t s) (hS : x.S = (s.R.length : Nat)) (hsl : s.R.length ≤ 12) :
    Calls Try.prog 14 #[x.v, .pointer (some ⟨r, 0, none⟩)] w fun e w' => ∃ b, e = .returned (.bool b) ∧ (b = true → freeP s x) ∧ (mayB (s.R.length : Nat) x.F x.C (x.E : Int) = false → b = false) ∧ Below w.heap.size w w' := by
  have hE := h.e
  obtain ⟨hf1, hf2⟩ := h.f
  obtain ⟨hc1, hc2⟩ := h.c
  have HR := Lib.hid hr
  obtain ⟨S, F, C, E, OA, on, oc, OL, RA', rn, rc, RL⟩ := x
  simp only [Cs.v, freeP] at *
  subst hS
  clear h hr
  obtain ⟨mb, hmb⟩ : ∃ b, mayB (s.R.length : Nat) F C (E : Int) = b := ⟨_, rfl⟩
  have HMB := Lib.hid hmb
  have HMY := Lib.hid (fun W => May_any W (s.R.length : Nat) F C (E : Int) (by omega) (by omega) mb hmb)
  have HB0 := Lib.hid (show Below w.heap.size w (w.alloc (.cells #[.int .i64 (s.R.length : Nat), .slice OA on oc, .int .i64 F, .int .i64 C, .int .u32 (E : Int), .slice RA' rn rc] 25)) from (Below.refl _ w).alloc (Nat.le_refl _) _)
  have HK0 := Lib.hid (show Blk (w.alloc (.cells #[.int .i64 (s.R.length : Nat), .slice OA on oc, .int .i64 F, .int .i64 C, .int .u32 (E : Int), .slice RA' rn rc] 25)) w.heap.size 25 #[.int .i64 (s.R.length : Nat), .slice OA on oc, .int .i64 F, .int .i64 C, .int .u32 (E : Int), .slice RA' rn rc] from Blk.new _ _ _)
  cases mb
  · rw [HMB.out]
    clear hmb
    go_enter Try.func14, Try.ntmps14
    go_wp2_with (go_at_call 25; refine (HMY.out _).mono ?_; rintro e w' ⟨rfl, rfl⟩)
    go_ret
    exact ⟨false, rfl, fun h => by simp at h, fun _ => rfl, HB0.out⟩
  · have hv := mayB_of hmb
    obtain ⟨v1, v2, v3, v4, v5⟩ := hv
    obtain ⟨f, rfl⟩ : ∃ f : Nat, F = (f : Int) := ⟨F.toNat, by omega⟩
    obtain ⟨c, rfl⟩ : ∃ c : Nat, C = (c : Int) := ⟨C.toNat, by omega⟩
    clear hmb
    go_enter Try.func14, Try.ntmps14
    go_wp2_with (go_at_call 25; refine (HMY.out _).mono ?_; rintro e w' ⟨rfl, rfl⟩)
    go_loopw [5] (fun i wr => ∃ a : Nat, i = .int .i64 (a : Int) ∧ f ≤ a ∧ a ≤ f + c ∧ (∀ j, f ≤ j → j < a → ends (s.R.getD j []) ≠ E) ∧ Below w.heap.size w wr ∧ Blk wr w.heap.size 25 #[.int .i64 (s.R.length : Nat), .slice OA on oc, .int .i64 (f : Int), .int .i64 (c : Int), .int .u32 (E : Int), .slice RA' rn rc]) (fun i _ => f + c - (intOf i).toNat)
    case atStart => exact ⟨f, rfl, Nat.le_refl _, by omega, fun j h1 h2 => by omega, HB0.out, HK0.out⟩
    case round =>
      obtain ⟨a, rfl, ha1, ha2, hall, hB, hK⟩ := hrel
      have HA := Lib.hid hall
      have HB := Lib.hid hB
      have HK := Lib.hid hK
      have k2 : wr.cell? ⟨w.heap.size, 2, none⟩ = some (.int .i64 (f : Int)) := hK.cell 2
      have k3 : wr.cell? ⟨w.heap.size, 3, none⟩ = some (.int .i64 (c : Int)) := hK.cell 3
      have k4 : wr.cell? ⟨w.heap.size, 4, none⟩ = some (.int .u32 (E : Int)) := hK.cell 4
      clear hall hB hK
      by_cases hlt : a < f + c
      · have hlti : (a : Int) < (f : Int) + (c : Int) := by omega
        have hal : a < s.R.length := by omega
        by_cases hen : ends (s.R.getD a []) = E
        · have HC := Lib.hid (Ends_any F4' wr r t s (HR.out.below HB.out) a hal E true (decide_eq_true hen))
          clear hen
          go_wp2_with fail
          refine HC.out.mono ?_
          rintro e w2 ⟨rfl, kq, rfl⟩
          go_wp2
          go_ret
          exact ⟨false, rfl, fun h => by simp at h, fun _ => rfl, below_drewN HB.out⟩
        · have HC := Lib.hid (Ends_any F4' wr r t s (HR.out.below HB.out) a hal E false (decide_eq_false hen))
          have HA2 : Hid (∀ j, f ≤ j → j < a + 1 → ends (s.R.getD j []) ≠ E) := Lib.hid (fun j h1 h2 => by
            by_cases hj : j < a
            · exact HA.out j h1 hj
            · obtain rfl : j = a := by omega
              exact hen)
          clear hen
          go_wp2_with fail
          refine HC.out.mono ?_
          rintro e w2 ⟨rfl, kq, rfl⟩
          go_wp2
          go_roundw
          case rel => exact ⟨a + 1, by go_num, by omega, by omega, HA2.out, below_drewN HB.out, HK.out⟩
          case measure => simp [intOf]; omega
      · have hge : (f : Int) + (c : Int) ≤ (a : Int) := by omega
        go_wp2
        go_ret
        exact ⟨true, rfl, fun _ => ⟨HMB.out, fun i h1 h2 => HA.out i (by omega) (by omega)⟩, fun h => by rw [HMB.out] at h; simp at h, HB.out⟩
/-- The examples. -/
def awL : Lg := ⟨0, 1, 1, 0, 0, []⟩
def awS : St := ⟨[wsec 1 [0, 0, 0, 2, 7, 8]], false, 0, 0, 1⟩
theorem aw_app : (awL.app (St.new 1) [7, 8]) = (⟨0, 1, 1, 6, 1, [0, 0, 0, 2, 7, 8]⟩, awS, 0) := by rfl
theorem aw_free : freeM (59 * ((1 : Nat) : Int) - ((0 : Nat) : Int)) = 55 := by rfl
set_option maxRecDepth 100000 in
set_option maxHeartbeats 2000000 in
theorem awake_any (w : World) : Calls Try.prog 11 #[] w fun e w' => e = .returned (.bool true) ∧ Below w.heap.size w w' := by
  go_enter Try.func11, Try.ntmps11
  go_wp2_with fail
  refine (New_ok w 1 (by decide) (by decide)).mono ?_
  rintro e w1 ⟨rfl, hd, hb⟩
  have HD := Lib.hid hd
  have HW := Lib.hid hb
  have hlt : w.heap.size + 1 < w1.heap.size := hd.1.lt
  clear hd hb
  go_wp2_with fail
  refine (NewL_ok w1 (w.heap.size + 1) w.heap.size (St.new 1) HD.out 0 1 1 (by decide)).mono ?_
  rintro e w2 ⟨rfl, hl, hb⟩
  have HL := Lib.hid (hl (G3 (w.heap.size + 1) w.heap.size w1.heap.size))
  have hgl : w1.heap.size < w2.heap.size := by obtain ⟨A, cap, hk, -⟩ := hl (fun _ => False); exact hk.lt
  have HD2 := Lib.hid (HD.out.below hb)
  have HW2 := Lib.hid (HW.out.trans (hb.mono HW.out.size))
  clear hl hb HD HW
  generalize hp : w.heap.size + 1 = p at *
  generalize hq : w.heap.size = q at *
  generalize w1.heap.size = g at *
  have HF := Lib.hid (show ∀ k, G3 p q g k → k < w2.heap.size from fun k hk => by rcases hk with e | e | e <;> omega)
  have HFq := Lib.hid (show ∀ k, G3 p q g k → q ≤ k from fun k hk => by rcases hk with e | e | e <;> omega)
  have hgn : ¬ PQ p q g := fun h => by rcases h with e | e <;> omega
  have HFL := Lib.hid (FreeL_any _ w2 g p _ HL.out (by decide) (by decide))
  rw [show freeM (59 * (((⟨0, 1, 1, 0, 0, []⟩ : Lg).c : Nat) : Int) - (((⟨0, 1, 1, 0, 0, []⟩ : Lg).n : Nat) : Int)) = 55 from rfl] at HFL
  have HGN := Lib.hid hgn
  clear hp hgn
  have HQ := Lib.hid hq
  clear hq
  go_wp2_with fail
  refine HFL.out.mono ?_
  rintro e w3 ⟨rfl, hw3⟩
  have hb3 := below_dn hw3
  have HD3 := Lib.hid (HD2.out.below hb3)
  have HL3 := Lib.hid (HL.out.below hb3)
  have HW3 := Lib.hid (HW2.out.trans (hb3.mono (HQ.out ▸ HW2.out.size)))
  have hs3 := hb3.size
  clear hw3 hb3 HFL HD2 HL HW2
  have hbn : Below w3.heap.size w3 (w3.alloc (.cells #[.int .u8 7, .int .u8 8] 5)) := (Below.refl _ _).alloc (Nat.le_refl _) _
  have HB8 := Lib.hid (ba_of_blk (F := G3 p q g) (l := [7, 8]) (n := 2) (show Blk (w3.alloc (.cells #[.int .u8 7, .int .u8 8] 5)) w3.heap.size 5 (bc [7, 8]).toArray from Blk.new _ _ _) rfl (fun h => by have := HF.out _ h; omega))
  have HAP := Lib.hid (App_loop (G3 p q g) (w3.alloc (.cells #[.int .u8 7, .int .u8 8] 5)) g p q awL (St.new 1) (HL3.out.below hbn) (HD3.out.below hbn) (.inr (.inr rfl)) (.inl rfl) (.inr (.inl rfl)) HGN.out (fun k hk => by have := HF.out _ hk; have := hbn.size; omega) (by decide) (by decide) (by decide) (by decide) (by decide) _ 2 2 [7, 8] HB8.out (by decide) (by decide) (by decide) (by decide) (by decide) (by decide) rfl)
  rw [aw_app] at HAP
  have HW4 := Lib.hid (HW3.out.trans (hbn.mono (HQ.out ▸ HW3.out.size)))
  clear hbn HB8 HD3 HL3
  go_wp2_with fail
  refine HAP.out.mono ?_
  rintro e w5 ⟨rfl, hd5, -, hc5⟩
  have HD5 := Lib.hid hd5
  have HW5 := Lib.hid (hc5.below HW4.out HFq.out (HQ.out ▸ HW4.out.size))
  clear hd5 hc5 HAP
  go_wp2_with fail
  refine (Read_ok w5 p q awS HD5.out rfl 0 (by decide)).mono ?_
  rintro e w6 ⟨g6, rfl, hg6, hk6, hb6⟩
  have HW6 := Lib.hid (HW5.out.trans (hb6.mono (HQ.out ▸ HW5.out.size)))
  have c59 : w6.cell? ⟨g6, 59, none⟩ = some (.int .u8 6) := hk6.cell 59
  have c63 : w6.cell? ⟨g6, 63, none⟩ = some (.int .u8 1) := hk6.cell 63
  have hby := bytes_of_blk (n := 64) hk6 rfl
  have r7 := string_at (c := 64) (hby.take (k := 7) (by decide))
  rw [show ((awS.R.getD 0 []).take 7) = [0, 0, 0, 2, 7, 8, 0] from rfl] at r7
  clear hg6 hk6 hb6 hby HD5
  go_wp2
  go_ret
  exact ⟨rfl, HQ.out ▸ HW6.out⟩
end Go.Proofs.Ytgpofkabidginaa
