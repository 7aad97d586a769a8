/- The reference of a disk: the small functions. -/
import Derived.Test.YthhpilkhcomhbaaDoorDls
namespace Go.Proofs.YthhpilkhcomhbaaDoor
open Go.ChangeShapes Go.WideShapes Go.ChangeAt Go.RowKit Go.ChangeMaps

/-- The reference's disk in memory. -/
def Rk (F : Nat → Prop) (w : World) (r t : Nat) (s : St) : Prop := ∃ (cap : Nat) (cur : Array Value),
  Blk w r 71 #[.slice (some ⟨t, 0, none⟩) s.R.length cap, .bool s.f, .int .i64 (s.a : Int), .int .i64 (s.b : Int), .int .i64 (s.x : Int)] ∧ Blk w t 36 cur ∧ s.R.length ≤ cur.size ∧ s.R.length ≤ cap ∧
  (∀ i, i < s.R.length → ∃ A c, cur[i]? = some (.slice A 64 c) ∧ 64 ≤ c ∧ c ≤ 9223372036854775807 ∧ BA F w A 64 (s.R.getD i [])) ∧ r ≠ t ∧ s.ok
section
variable {F : Nat → Prop} {w w' : World} {r t : Nat} {s : St}
theorem Rk.chg {G : Nat → Prop} (h : Rk F w r t s) (hc : Chg G w w') (hG : ∀ k, G k → F k) (hr : ¬ G r) (ht : ¬ G t) : Rk F w' r t s := by
  obtain ⟨cap, cur, h1, h2, h3, h4, h5, h6, h7⟩ := h
  exact ⟨cap, cur, h1.chg hc hr, h2.chg hc ht, h3, h4, fun i hi => by
    obtain ⟨A, c, e, hc1, hc2, hb⟩ := h5 i hi
    exact ⟨A, c, e, hc1, hc2, hb.chg (hc.mono hG)⟩, h6, h7⟩
theorem Rk.below (h : Rk F w r t s) (hb : Below w.heap.size w w') : Rk F w' r t s := h.chg (G := fun _ => False) (Chg.of_below hb) (fun _ e => e.elim) (fun e => e) (fun e => e)
theorem Rk.ok (h : Rk F w r t s) : s.ok := by obtain ⟨cap, cur, _, _, _, _, _, _, h7⟩ := h; exact h7
/-- A word of the struct is written. -/
theorem Rk.put {s2 : St} (h : Rk F w r t s) (hF : F r) (hR : s2.R = s.R) (hok : s2.ok) (hc : Chg (fun k => k = r) w w')
    (hb : ∀ cap, Blk w r 71 #[.slice (some ⟨t, 0, none⟩) s.R.length cap, .bool s.f, .int .i64 (s.a : Int), .int .i64 (s.b : Int), .int .i64 (s.x : Int)] → Blk w' r 71 #[.slice (some ⟨t, 0, none⟩) s.R.length cap, .bool s2.f, .int .i64 (s2.a : Int), .int .i64 (s2.b : Int), .int .i64 (s2.x : Int)]) : Rk F w' r t s2 := by
  obtain ⟨cap, cur, h1, h2, h3, h4, h5, h6, h7⟩ := h
  refine ⟨cap, cur, ?_, h2.chg hc (fun e => h6 e.symm), by rw [hR]; exact h3, by rw [hR]; exact h4, fun i hi => ?_, h6, hok⟩
  · rw [hR]; exact hb cap h1
  · rw [hR] at hi ⊢
    obtain ⟨A, c, e, hc1, hc2, hbb⟩ := h5 i hi
    exact ⟨A, c, e, hc1, hc2, hbb.chg (hc.mono (fun k e => by rw [e]; exact hF))⟩
/-- The facts of the struct. -/
theorem Rk.cells (h : Rk F w r t s) : ∃ cap, s.R.length ≤ cap ∧ w.cell? ⟨r, 0, none⟩ = some (.slice (some ⟨t, 0, none⟩) s.R.length cap) ∧ w.cell? ⟨r, 1, none⟩ = some (.bool s.f) ∧ w.cell? ⟨r, 2, none⟩ = some (.int .i64 (s.a : Int)) ∧ w.cell? ⟨r, 3, none⟩ = some (.int .i64 (s.b : Int)) ∧ w.cell? ⟨r, 4, none⟩ = some (.int .i64 (s.x : Int)) ∧ ∀ i, w.frozen? ⟨r, i, none⟩ = false := by
  obtain ⟨cap, cur, h1, h2, h3, h4, h5, h6, h7⟩ := h
  exact ⟨cap, h4, h1.cell 0, h1.cell 1, h1.cell 2, h1.cell 3, h1.cell 4, fun i => Joins.unfrozen_of_block h1 i⟩
theorem Rk.sec (h : Rk F w r t s) (i : Nat) (hi : i < s.R.length) : ∃ A c, w.cell? ⟨t, i, none⟩ = some (.slice A 64 c) ∧ 64 ≤ c ∧ c ≤ 9223372036854775807 ∧ BA F w A 64 (s.R.getD i []) ∧ w.frozen? ⟨t, i, none⟩ = false := by
  obtain ⟨cap, cur, h1, h2, h3, h4, h5, h6, h7⟩ := h
  obtain ⟨A, c, e, hc1, hc2, hb⟩ := h5 i hi
  exact ⟨A, c, (h2.cell i).trans e, hc1, hc2, hb, Joins.unfrozen_of_block h2 i⟩
/-- Another sector. -/
theorem Rk.setSec (h : Rk F w r t s) (hF : F t) (i : Nat) (hi : i < s.R.length) {A : Option Addr} {c : Nat} {d : List UInt8} (hd : BA F w A 64 d) (hc1 : 64 ≤ c) (hc2 : c ≤ 9223372036854775807) : Rk F (w.setCell ⟨t, i, none⟩ (.slice A 64 c)) r t { s with R := s.R.set i d } := by
  obtain ⟨cap, cur, h1, h2, h3, h4, h5, h6, h7⟩ := h
  have hc : Chg (fun k => k = t) w (w.setCell ⟨t, i, none⟩ (.slice A 64 c)) := (Chg.refl _ _).set_ rfl
  refine ⟨cap, cur.setIfInBounds i (.slice A 64 c), ?_, Joins.block_setCell h2 _, by simpa using h3, by simpa using h4, fun j hj => ?_, h6, set_len64 h7.1 hd.1, h7.2.1, by simpa using h7.2.2.1, h7.2.2.2⟩
  · have := h1.chg hc (fun e => h6 e)
    simpa using this
  · have hj2 : j < s.R.length := by simpa using hj
    by_cases hji : j = i
    · subst hji
      refine ⟨A, c, by rw [Array.getElem?_setIfInBounds_self_of_lt (by omega)], hc1, hc2, ?_⟩
      show BA F _ A 64 ((s.R.set j d).getD j [])
      rw [List.getD_eq_getElem?_getD, List.getElem?_set_self hj2]
      exact hd.chg (hc.mono (fun k e => by rw [e]; exact hF))
    · obtain ⟨A', c', e, hc1', hc2', hb⟩ := h5 j hj2
      refine ⟨A', c', by rw [Array.getElem?_setIfInBounds_ne (by omega)]; exact e, hc1', hc2', ?_⟩
      show BA F _ A' 64 ((s.R.set i d).getD j [])
      rw [List.getD_eq_getElem?_getD, List.getElem?_set_ne (Ne.symm hji), ← List.getD_eq_getElem?_getD]
      exact hb.chg (hc.mono (fun k e => by rw [e]; exact hF))
end
theorem arm_blk2 {w : World} {r k n x : Nat} {S F : Value} {a b : Int} {k' n' : Int} (h : Blk w r 71 #[S, F, .int .i64 a, .int .i64 b, .int .i64 (x : Int)]) (e1 : k' = (k : Int)) (e2 : n' = (n : Int)) : Blk ((w.setCell ⟨r, 2, none⟩ (.int .i64 k')).setCell ⟨r, 3, none⟩ (.int .i64 n')) r 71 #[S, F, .int .i64 (k : Int), .int .i64 (n : Int), .int .i64 (x : Int)] := by
  subst e1 e2; exact Joins.block_setCell (Joins.block_setCell h _) _
section
variable (F : Nat → Prop) (w : World) (r t : Nat) (s : St) (h : Rk F w r t s) (hF : F r)
include h hF
theorem RRestart_any : Calls Tryd.prog 32 #[.pointer (some ⟨r, 0, none⟩)] w fun e w' => e = .returned (.tuple #[]) ∧ Rk F w' r t s.Re ∧ Chg (PQ r t) w w' := by
  obtain ⟨cap, hcap, c0, c1, c2, c3, c4, fz⟩ := h.cells
  have f1 := fz 1
  have HD := Lib.hid h
  clear h fz
  go_enter Tryd.func32, Tryd.ntmps32
  go_wp2
  go_end0
  exact ⟨rfl, HD.out.put hF rfl HD.out.ok ((Chg.refl (fun k => k = r) w).set_ rfl) (fun cap hb => Joins.block_setCell hb _), (Chg.refl _ _).set_ (.inl rfl)⟩
theorem RFail_any : Calls Tryd.prog 31 #[.pointer (some ⟨r, 0, none⟩)] w fun e w' => e = .returned (.tuple #[]) ∧ Rk F w' r t s.Fl ∧ Chg (PQ r t) w w' := by
  obtain ⟨cap, hcap, c0, c1, c2, c3, c4, fz⟩ := h.cells
  have f1 := fz 1
  have f2 := fz 2
  have HD := Lib.hid h
  clear h fz
  go_enter Tryd.func31, Tryd.ntmps31
  go_wp2
  go_end0
  exact ⟨rfl, HD.out.put hF rfl HD.out.ok.Fl (((Chg.refl (fun k => k = r) w).set_ rfl).set_ rfl) (fun cap hb => Joins.block_setCell (Joins.block_setCell hb _) _), ((Chg.refl _ _).set_ (.inl rfl)).set_ (.inl rfl)⟩
theorem RArm_any (k n : Int) (hk : k ≤ 9223372036854775807) : Calls Tryd.prog 30 #[.pointer (some ⟨r, 0, none⟩), .int .i64 k, .int .i64 n] w fun e w' => e = .returned (.tuple #[]) ∧ Rk F w' r t (s.Ar k n) ∧ Chg (PQ r t) w w' := by
  obtain ⟨cap, hcap, c0, c1, c2, c3, c4, fz⟩ := h.cells
  have f2 := fz 2
  have f3 := fz 3
  have HD := Lib.hid h
  clear h fz
  cases hf : s.f
  · have HA : Hid (s.Ar k n = { s with a := k.toNat, b := min n.toNat 64 }) := Lib.hid (by unfold St.Ar; rw [hf]; rfl)
    rw [hf] at c1
    have HO := Lib.hid (HD.out.ok.Ar (n := n) hk)
    rw [HA.out] at HO
    clear hf
    go_enter Tryd.func30, Tryd.ntmps30
    go_wp2
    all_goals go_end0
    all_goals
      refine ⟨rfl, ?_, ((Chg.refl _ _).set_ (.inl rfl)).set_ (.inl rfl)⟩
      rw [HA.out]
      refine HD.out.put hF rfl HO.out (((Chg.refl (fun k => k = r) w).set_ rfl).set_ rfl) (fun cap hb => ?_)
      exact arm_blk2 (k := k.toNat) (n := min n.toNat 64) hb (by omega) (by omega)
  · have HA : Hid (s.Ar k n = s) := Lib.hid (by unfold St.Ar; rw [hf]; rfl)
    rw [hf] at c1
    clear hf
    go_enter Tryd.func30, Tryd.ntmps30
    go_wp2
    go_end0
    exact ⟨rfl, by rw [HA.out]; exact HD.out, Chg.refl _ _⟩
end
end Go.Proofs.YthhpilkhcomhbaaDoor
