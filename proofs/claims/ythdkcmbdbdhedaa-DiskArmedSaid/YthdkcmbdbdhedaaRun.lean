/- Operations on a disk and on its reference. -/
import Derived.Test.YthdkcmbdbdhedaaDoc
namespace Go.Proofs.Ythdkcmbdbdhedaa
open Go.ChangeShapes Go.WideShapes Go.ChangeAt Go.RowKit Go.ChangeMaps

theorem Rk_new {w : World} {B r : Nat} {v : Value} {G : Nat → Nat} (h1 : Blk w r 43 #[v, .bool false, .int .i64 0, .int .i64 0, .int .i64 0]) (h2 : w.ownsRow B 34 1 v 4 (gs G 4)) (h3 : ∀ i, i < 4 → Blk w (G i) 5 (bc zeros).toArray ∧ B ≤ G i) (hB : B ≤ r) :
    ∃ t, B ≤ t ∧ r ≠ t ∧ ∀ F : Nat → Prop, (∀ k, F k → k < B ∨ k = r ∨ k = t) → Rk F w r t (St.new 4) := by
  have h20 := h2
  rcases h2.2 with ⟨rfl, hl⟩ | ⟨t, cap, cur, rfl, hg, hh, hnc, hcap, hsz, htake⟩
  · omega
  · have hne : r ≠ t := fun e => by
      subst e
      unfold Blk at h1
      rw [hh] at h1
      simp at h1
    refine ⟨t, hg, hne, fun F hF => ⟨cap, cur, ?_, hh, by rw [hsz]; show 4 ≤ cap * 1; omega, hnc, fun i hi => ?_, hne, St.new_ok (by decide)⟩⟩
    · exact h1
    · have hi4 : i < 4 := hi
      obtain ⟨b1, b2⟩ := h3 i hi4
      refine ⟨some ⟨G i, 0, none⟩, 64, ?_, Nat.le_refl _, by decide, ?_⟩
      · have hc := World.ownsRow.cellAt h20 i (by omega)
        rw [show w.cell? ⟨t, i, none⟩ = cur[i]? from Blk.cell hh i] at hc
        rw [hc]
        unfold gs
        match i, hi4 with
        | 0, _ => rfl
        | 1, _ => rfl
        | 2, _ => rfl
        | 3, _ => rfl
      · have e : (St.new 4).R.getD i [] = zeros := by
          match i, hi4 with
          | 0, _ => rfl
          | 1, _ => rfl
          | 2, _ => rfl
          | 3, _ => rfl
        rw [e]
        refine ba_of_blk b1 (by decide) (fun e => ?_)
        rcases hF _ e with h | h | h
        · omega
        · rw [h] at b1
          unfold Blk at b1 h1
          rw [h1] at b1
          simp at b1
        · rw [h] at b1
          unfold Blk at b1
          rw [hh] at b1
          simp at b1
set_option maxRecDepth 100000 in
set_option maxHeartbeats 2000000 in
theorem run_any (w : World) (A : Option Addr) (n c : Nat) (L : List OpM) (h : OpsAt w A n L) (hn : n ≤ 9223372036854775807) (hfew : fewM L = true) :
    Calls Try.prog 11 #[.slice A n c] w fun e w' => ∃ p q r t s, e = .returned (.tuple #[.pointer (some ⟨p, 0, none⟩), .pointer (some ⟨r, 0, none⟩), .bool true]) ∧ DM w' p q r t s ∧ s.R.length = 4 ∧ s.x ≤ 60 ∧ (∀ k, F4 p q r t k → w.heap.size ≤ k) ∧ Below w.heap.size w w' := by
  have HL := Lib.hid h.1
  have HO := Lib.hid h
  obtain ⟨hf1, hf2⟩ := fewM_of hfew
  have hn60 : n ≤ 60 := by rw [← h.1]; exact hf2
  clear h hf1 hf2
  go_enter Try.func11, Try.ntmps11
  go_wp2_with fail
  refine (New_ok w 4 (by decide) (by decide)).mono ?_
  rintro e w1 ⟨rfl, hd, hb⟩
  have HD := Lib.hid hd
  have HW := Lib.hid hb
  have hlt : w.heap.size + 1 < w1.heap.size := hd.1.lt
  clear hd hb
  go_wp2_with fail
  refine (RNew_any w1).mono ?_
  rintro e w2 ⟨rfl, ⟨v, G, h1, h2, h3⟩, hb⟩
  obtain ⟨t, ht1, ht2, hrk⟩ := Rk_new h1 h2 h3 (Nat.le_refl _)
  have hrk := hrk (F4 (w.heap.size + 1) w.heap.size w1.heap.size t) (fun k hk => by
    rcases hk with e | e | e | e
    · left; omega
    · left; omega
    · right; left; exact e
    · right; right; exact e)
  have HM := Lib.hid (show DM w2 (w.heap.size + 1) w.heap.size w1.heap.size t (St.new 4) from ⟨HD.out.below hb, hrk, by omega, by omega, by omega, by omega⟩)
  have HF := Lib.hid (show ∀ k, F4 (w.heap.size + 1) w.heap.size w1.heap.size t k → w.heap.size ≤ k from fun k hk => by rcases hk with e | e | e | e <;> omega)
  replace HW := Lib.hid (HW.out.trans (hb.mono HW.out.size))
  clear h1 h2 h3 hrk hb HD hlt ht1 ht2
  generalize w.heap.size + 1 = p at *
  generalize hq : w.heap.size = q at HM HF
  generalize w1.heap.size = r at *
  go_wp2_with fail
  refine (few_any w2 A n c L (HO.out.below HW.out) hn true hfew).mono ?_
  rintro e w3 ⟨rfl, hb⟩
  replace HM := Lib.hid (HM.out.below hb)
  replace HW := Lib.hid (HW.out.trans (hb.mono HW.out.size))
  clear hb
  go_wp2_with fail
  go_loopw [9, 34] (fun okv i wr => ∃ (k : Nat) (s : St), k ≤ n ∧ i = .int .i64 (k : Int) ∧ okv = .bool true ∧ DM wr p q r t s ∧ s.R.length = 4 ∧ s.x ≤ k ∧ Below w.heap.size w wr) (fun _ i _ => n - (intOf i).toNat)
  case atStart => exact ⟨0, St.new 4, Nat.zero_le _, rfl, rfl, HM.out, by rfl, by simp [St.new], HW.out⟩
  case round =>
    clear HM HW
    obtain ⟨k, s, hk, rfl, rfl, hM, hR4, hxk, hB⟩ := hrel
    have HM := Lib.hid hM
    have HW := Lib.hid hB
    have HR4 := Lib.hid hR4
    have HX := Lib.hid hxk
    clear hM hB hR4 hxk
    by_cases hlt : k < n
    · obtain ⟨ob, off, rfl, hbl, hcc⟩ := HO.out.2 (by omega)
      have hk2 : k < L.length := by rw [HL.out]; exact hlt
      have hh := hcc k hk2
      generalize L[k] = o at hh
      obtain ⟨q0, q1, q2, q3, q4, q5⟩ := hh
      have q0 : wr.cell? ⟨ob, off + k * 4, none⟩ = some (.int .i64 o.k) := keepcell HW.out q0
      have q1 : wr.cell? ⟨ob, off + k * 4 + 1, none⟩ = some (.int .i64 o.s) := keepcell HW.out q1
      have q2 : wr.cell? ⟨ob, off + k * 4 + 2, none⟩ = some (.int .i64 o.n) := keepcell HW.out q2
      have q3 : wr.cell? ⟨ob, off + k * 4 + 3, none⟩ = some (.slice o.A o.m o.c) := keepcell HW.out q3
      have HBA := Lib.hid ((BA.of_at q4 (by rw [hq]; exact HF.out)).below HW.out)
      have HOK := Lib.hid q5
      clear hcc q4 q5 hk2
      have hbel : Below wr.heap.size wr (wr.alloc (.cells #[.int .i64 o.k, .int .i64 o.s, .int .i64 o.n, .slice o.A o.m o.c] 48)) := (Below.refl _ wr).alloc (Nat.le_refl _) _
      have CD := Lib.hid (do_any _ p q r t s (HM.out.below hbel) (by have := HX.out; omega) o HOK.out (HBA.out.below hbel))
      have HW1 := Lib.hid (HW.out.trans (hbel.mono HW.out.size))
      clear hbel HM
      obtain ⟨ok, os, on, oA, om, oc, od⟩ := o
      simp only at q0 q1 q2 q3 CD
      go_wp2_with fail
      refine CD.out.mono ?_
      rintro e v1 ⟨rfl, hm, hcg⟩
      have HM1 := Lib.hid hm
      have HW2 := Lib.hid (hcg.below HW1.out (by rw [hq]; exact HF.out) HW1.out.size)
      clear hm hcg CD
      go_wp2
      go_roundw
      case rel => exact ⟨k + 1, _, by omega, by go_num, rfl, HM1.out, by rw [St.doM_R]; exact HR4.out, Nat.le_trans (St.doM_x _ _) (by have := HX.out; omega), HW2.out⟩
      case measure => simp [intOf]; omega
    · obtain rfl : k = n := by omega
      go_wp2
      go_ret3
      exact ⟨p, q, r, t, s, rfl, HM.out, HR4.out, by have := HX.out; omega, by rw [hq]; exact HF.out, HW.out⟩
end Go.Proofs.Ythdkcmbdbdhedaa
