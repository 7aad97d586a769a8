/- Torn sectors. -/
import Derived.Test.YthdkcmbdbdhedaaFew
namespace Go.Proofs.Ythdkcmbdbdhedaa
open Go.ChangeShapes Go.WideShapes Go.ChangeAt Go.RowKit Go.ChangeMaps

theorem pure_below {P : Program} {f : FuncId} {args : Array Value} {w : World} {e0 : Ending} (h : Calls P f args w fun e w' => e = e0 ∧ w = w') : Calls P f args w fun e w' => e = e0 ∧ Below w.heap.size w w' := h.mono fun _ _ ⟨a, b⟩ => ⟨a, by subst b; exact Below.refl _ _⟩
theorem BytesAt.take {w : World} {b off n k : Nat} {l : List UInt8} (h : BytesAt w (some ⟨b, off, none⟩) n l) (hk : k ≤ n) : BytesAt w (some ⟨b, off, none⟩) k (l.take k) :=
  ⟨by rw [List.length_take, h.1]; omega, fun hn => by
    obtain ⟨b', off', e, hl, hc⟩ := h.2 (by omega)
    cases e
    exact ⟨b, off, rfl, hl, fun i hi => by
      rw [List.length_take] at hi
      rw [hc i (by omega)]
      simp⟩⟩
theorem BytesAt.drop {w : World} {b off n k : Nat} {l : List UInt8} (h : BytesAt w (some ⟨b, off, none⟩) n l) (hk : k ≤ n) : BytesAt w (some ⟨b, off + k, none⟩) (n - k) (l.drop k) :=
  ⟨by rw [List.length_drop, h.1], fun hn => by
    obtain ⟨b', off', e, hl, hc⟩ := h.2 (by omega)
    cases e
    exact ⟨b, off + k, rfl, hl, fun i hi => by
      rw [List.length_drop] at hi
      rw [Nat.add_assoc, hc (k + i) (by omega)]
      simp⟩⟩
theorem BytesAt.some {w : World} {A : Option Addr} {n : Nat} {l : List UInt8} (h : BytesAt w A n l) (hn : 0 < n) : ∃ b off, A = .some ⟨b, off, none⟩ := by
  obtain ⟨b, off, e, _⟩ := h.2 hn
  exact ⟨b, off, e⟩
theorem BytesAt.nil (w : World) (A : Option Addr) (l : List UInt8) (h : l = []) : BytesAt w A 0 l := ⟨by rw [h]; rfl, fun h => absurd h (by omega)⟩
theorem torn_take {a b : List UInt8} {j k : Nat} (ha : a.length = 64) (hb : b.length = 64) (hk : k ≤ j) (hj : j ≤ 64) : (b.take j ++ a.drop j).take k = b.take k := by
  rw [List.take_append_of_le_length (by rw [List.length_take]; omega), List.take_take, Nat.min_eq_left hk]
theorem torn_drop {a b : List UInt8} {j : Nat} (ha : a.length = 64) (hb : b.length = 64) (hj : j ≤ 64) : (b.take j ++ a.drop j).drop j = a.drop j := by
  have h1 : (b.take j).length = j := by rw [List.length_take]; omega
  rw [List.drop_append_of_le_length (by omega), List.drop_of_length_le (by omega), List.nil_append]
set_option maxRecDepth 100000 in
set_option maxHeartbeats 1000000 in
theorem torn_any (w : World) (A B C : Option Addr) (a b : List UInt8) (j : Nat) (hj : j ≤ 64) (ha : BytesAt w A 64 a) (hb : BytesAt w B 64 b) (hc : BytesAt w C 64 (b.take j ++ a.drop j)) :
    Calls Try.prog 25 #[.slice A 64 64, .slice B 64 64, .slice C 64 64] w fun e w' => e = .returned (.bool true) ∧ Below w.heap.size w w' := by
  obtain ⟨ab, ao, rfl⟩ := ha.some (by decide)
  obtain ⟨bb, bo, rfl⟩ := hb.some (by decide)
  obtain ⟨cb, co, rfl⟩ := hc.some (by decide)
  have HT := Lib.hid (fun k hk => torn_take (k := k) ha.1 hb.1 hk hj)
  have HDD := Lib.hid (torn_drop ha.1 hb.1 hj)
  have hclen := hc.1
  generalize b.take j ++ a.drop j = c at *
  have HA := Lib.hid ha
  have HB := Lib.hid hb
  have HC := Lib.hid hc
  clear ha hb hc hclen
  go_enter Try.func25, Try.ntmps25
  go_wp2
  go_loopw [7] (fun i wr => ∃ k : Nat, k ≤ j ∧ i = .int .i64 (k : Int) ∧ Below w.heap.size w wr) (fun i _ => 64 - (intOf i).toNat)
  case atStart => exact ⟨0, Nat.zero_le _, rfl, Below.refl _ _⟩
  case round =>
    obtain ⟨k, hk, rfl, hB⟩ := hrel
    have HW := Lib.hid hB
    have A1 := Lib.hid (fun W (hW : Below w.heap.size w W) => Same_any W (some ⟨cb, co, none⟩) (some ⟨bb, bo, none⟩) k 64 k 64 _ _ ((HC.out.below hW).take (by omega)) ((HB.out.below hW).take (by omega)) true (by rw [HT.out k hk]; simp))
    obtain ⟨b2, hb2⟩ : ∃ b2, decide (c.drop k = a.drop k) = b2 := ⟨_, rfl⟩
    have HB2 := Lib.hid hb2
    clear hB
    have k64 : (k : Int) ≤ 64 := by omega
    have k0 : (0 : Int) ≤ k := by omega
    by_cases h64 : k = 64
    · obtain rfl : b2 = true := by rw [← hb2]; obtain rfl : k = j := by omega
                                   simp [HDD.out]
      subst h64
      have A2 := Lib.hid (fun W (hW : Below w.heap.size w W) => Same_any W (some ⟨cb, co, none⟩) (some ⟨ab, ao, none⟩) 0 0 0 0 _ _ (BytesAt.nil W _ [] rfl) (BytesAt.nil W _ [] rfl) true (by simp))
      go_wp2
      refine wp_region_quiet_below (by kernel_rfl) (by kernel_rfl) ?_
      repeat (go_big_quiet_step ((go_at_call 18; first | (with_reducible exact Calls.regrown_of (pure_below (A1.out _ (HW.out.trans ((below_regrown _ _ _).mono HW.out.size))))) | (with_reducible exact Calls.regrown_of (pure_below (A2.out _ (HW.out.trans ((below_regrown _ _ _).mono HW.out.size))))))))
      refine wpQuiet_nil ?_
      intro _ hw'
      obtain ⟨⟨dq, osq⟩, hw''⟩ := hw'
      subst hw''
      have HZ := Lib.hid (HW.out.trans ((below_regrown wr dq osq).mono HW.out.size))
      go_wp2
      go_ret
      exact ⟨rfl, HZ.out⟩
    · have A2 := Lib.hid (fun W (hW : Below w.heap.size w W) => Same_any W (some ⟨cb, co + k, none⟩) (some ⟨ab, ao + k, none⟩) (64 - k) (64 - k) (64 - k) (64 - k) _ _ ((HC.out.below hW).drop (by omega)) ((HA.out.below hW).drop (by omega)) b2 hb2)
      have k63 : (k : Int) < 64 := by omega
      have HJ : Hid (b2 = false → k + 1 ≤ j) := Lib.hid (fun e => by
        by_cases hkj : k = j
        · subst hkj
          rw [HDD.out] at hb2
          simp at hb2
          rw [e] at hb2; cases hb2
        · omega)
      clear hb2
      go_wp2
      refine wp_region_quiet_below (by kernel_rfl) (by kernel_rfl) ?_
      repeat (go_big_quiet_step ((go_at_call 18; first | (with_reducible exact Calls.regrown_of (pure_below (A1.out _ (HW.out.trans ((below_regrown _ _ _).mono HW.out.size))))) | (with_reducible exact Calls.regrown_of (pure_below (A2.out _ (HW.out.trans ((below_regrown _ _ _).mono HW.out.size))))))))
      refine wpQuiet_nil ?_
      intro _ hw'
      obtain ⟨⟨dq, osq⟩, hw''⟩ := hw'
      subst hw''
      have HZ := Lib.hid (HW.out.trans ((below_regrown wr dq osq).mono HW.out.size))
      cases b2
      · have hkj := HJ.out rfl
        go_wp2
        go_roundw
        case rel => exact ⟨k + 1, hkj, by go_num, HZ.out⟩
        case measure => simp [intOf]; omega
      · go_wp2
        go_ret
        exact ⟨rfl, HZ.out⟩
end Go.Proofs.Ythdkcmbdbdhedaa
