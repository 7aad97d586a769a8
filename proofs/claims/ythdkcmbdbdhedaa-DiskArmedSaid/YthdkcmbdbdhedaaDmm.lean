/- A disk and its reference. -/
import Derived.Test.YthdkcmbdbdhedaaRnw
import Derived.Test.YthdkcmbdbdhedaaFew
namespace Go.Proofs.Ythdkcmbdbdhedaa
open Go.ChangeShapes Go.WideShapes Go.ChangeAt Go.RowKit Go.ChangeMaps

def F4 (p q r t : Nat) : Nat → Prop := fun k => k = p ∨ k = q ∨ k = r ∨ k = t
structure DM (w : World) (p q r t : Nat) (s : St) : Prop where
  d : Dk w p q s
  rk : Rk (F4 p q r t) w r t s
  ne : r ≠ p ∧ r ≠ q ∧ t ≠ p ∧ t ≠ q
theorem F4_pq {p q r t k : Nat} (h : PQ p q k) : F4 p q r t k := by rcases h with h | h; (· exact .inl h); exact .inr (.inl h)
theorem F4_rt {p q r t k : Nat} (h : PQ r t k) : F4 p q r t k := by rcases h with h | h; (· exact .inr (.inr (.inl h))); exact .inr (.inr (.inr h))
section
variable {w w' : World} {p q r t : Nat} {s s' : St}
theorem Rk.lts {F : Nat → Prop} (h : Rk F w r t s) : r < w.heap.size ∧ t < w.heap.size := by
  obtain ⟨cap, cur, h1, h2, _⟩ := h
  exact ⟨h1.lt, h2.lt⟩
theorem DM.lt (hd : Dk w p q s) {F : Nat → Prop} (hr : Rk F w r t s') : ∀ k, F4 p q r t k → k < w.heap.size := fun k hk => by
  have h1 := hd.1.lt
  have h2 := hd.2.1.lt
  have h3 := hr.lts
  rcases hk with e | e | e | e <;> omega
theorem DM.below (h : DM w p q r t s) (hb : Below w.heap.size w w') : DM w' p q r t s := ⟨h.d.below hb, h.rk.below hb, h.ne⟩
theorem Rk.pq (h : Rk (F4 p q r t) w r t s) (hne : r ≠ p ∧ r ≠ q ∧ t ≠ p ∧ t ≠ q) (hc : Chg (PQ p q) w w') : Rk (F4 p q r t) w' r t s :=
  h.chg hc (fun _ => F4_pq) (fun e => by rcases e with e | e; (· exact hne.1 e); exact hne.2.1 e) (fun e => by rcases e with e | e; (· exact hne.2.2.1 e); exact hne.2.2.2 e)
theorem Dk.rt (h : Dk w p q s) (hne : r ≠ p ∧ r ≠ q ∧ t ≠ p ∧ t ≠ q) (hc : Chg (PQ r t) w w') : Dk w' p q s :=
  h.chg hc (fun e => by rcases e with e | e; (· exact hne.1 e.symm); exact hne.2.2.1 e.symm) (fun e => by rcases e with e | e; (· exact hne.2.1 e.symm); exact hne.2.2.2 e.symm)
end
/-- An operation on the state. -/
def St.doM (s : St) (o : OpM) : St :=
  if o.k = 0 then (s.Wr o.s (sec64 o.d)).1 else if o.k = 1 then s else if o.k = 2 then s.Ar o.s o.n else if o.k = 3 then s.Fl else if o.k = 4 then s.Re else (s.Wr o.s o.d).1
theorem St.doM_x (s : St) (o : OpM) : (s.doM o).x ≤ s.x + 1 := by
  have hW : ∀ d, (s.Wr o.s d).1.x ≤ s.x + 1 := fun d => by
    unfold St.Wr St.wr
    split
    · exact Nat.le_succ _
    · split
      · split
        · exact Nat.le_succ _
        · exact Nat.le_refl _
      · exact Nat.le_succ _
  unfold St.doM
  split
  · exact hW _
  · split
    · omega
    · split
      · rw [show (s.Ar o.s o.n).x = s.x by unfold St.Ar; split <;> rfl]; omega
      · split
        · exact Nat.le_succ _
        · split
          · exact Nat.le_succ _
          · exact hW _
theorem St.doM_R (s : St) (o : OpM) : (s.doM o).R.length = s.R.length := by
  have hW : ∀ d, (s.Wr o.s d).1.R.length = s.R.length := fun d => by
    unfold St.Wr St.wr
    split
    · rfl
    · split
      · split <;> simp
      · rfl
  unfold St.doM
  split
  · exact hW _
  · split
    · rfl
    · split
      · rw [show (s.Ar o.s o.n).R = s.R by unfold St.Ar; split <;> rfl]
      · split
        · rfl
        · split
          · rfl
          · exact hW _
section
variable (v0 : World) (p q r t o8 : Nat) (s : St) (sc : Int) (hne : r ≠ p ∧ r ≠ q ∧ t ≠ p ∧ t ≠ q) (hx : s.x < 1000000000) (x0 x2 x3 : Value) (KO : Blk v0 o8 48 #[x0, .int .i64 sc, x2, x3]) (ho : ¬ F4 p q r t o8)
include hne hx KO ho
theorem wd (W : World) (A : Option Addr) (n c : Nat) (d : List UInt8) (hc : n ≤ c) (h1 : Chg (F4 p q r t) v0 W) (h2 : Dk W p q s) (h3 : Rk (F4 p q r t) W r t s) (h4 : BA (F4 p q r t) W A n d) :
    Calls Try.prog 22 #[.pointer (some ⟨p, 0, none⟩), .int .i64 sc, .slice A n c] W fun e w' => e = .returned (.int .i64 (s.Wr sc d).2) ∧ Chg (F4 p q r t) v0 w' ∧ Dk w' p q (s.Wr sc d).1 ∧ Rk (F4 p q r t) w' r t s ∧ BA (F4 p q r t) w' A n d ∧ w'.cell? ⟨o8, 1, none⟩ = some (.int .i64 sc) ∧ w'.cell? ⟨o8, 3, none⟩ = some x3 :=
  (Write_any W p q s h2 hx sc A n c d (h4.mono (fun _ => F4_pq)) hc).mono fun e w' ⟨e1, e2, e3⟩ =>
    have hcc := h1.trans (e3.mono (fun _ => F4_pq))
    ⟨e1, hcc, e2, h3.pq hne e3, h4.chg (e3.mono (fun _ => F4_pq)), (KO.chg hcc ho).cell 1, (KO.chg hcc ho).cell 3⟩
theorem wr_ (W : World) (A : Option Addr) (n c : Nat) (d : List UInt8) (hc : n ≤ c) (s1 : St) (h1 : Chg (F4 p q r t) v0 W) (h2 : Dk W p q s1) (h3 : Rk (F4 p q r t) W r t s) (h4 : BA (F4 p q r t) W A n d) :
    Calls Try.prog 31 #[.pointer (some ⟨r, 0, none⟩), .int .i64 sc, .slice A n c] W fun e w' => e = .returned (.int .i64 (s.Wr sc d).2) ∧ Chg (F4 p q r t) v0 w' ∧ Dk w' p q s1 ∧ Rk (F4 p q r t) w' r t (s.Wr sc d).1 ∧ w'.cell? ⟨o8, 1, none⟩ = some (.int .i64 sc) ∧ w'.cell? ⟨o8, 3, none⟩ = some x3 :=
  (RWrite_any (F4 p q r t) W r t s h3 (.inr (.inr (.inl rfl))) (.inr (.inr (.inr rfl))) (DM.lt h2 h3) hx sc A n c d h4 hc).mono fun e w' ⟨e1, e2, e3⟩ =>
    have hcc := h1.trans (e3.mono (fun _ => F4_rt))
    ⟨e1, hcc, h2.rt hne e3, e2, (KO.chg hcc ho).cell 1, (KO.chg hcc ho).cell 3⟩
omit hne hx in
theorem sec_ (W : World) (A : Option Addr) (n c : Nat) (d : List UInt8) (hn : n ≤ 9223372036854775807) (s1 : St) (h1 : Chg (F4 p q r t) v0 W) (h2 : Dk W p q s1) (h3 : Rk (F4 p q r t) W r t s) (h4 : BA (F4 p q r t) v0 A n d) :
    Calls Try.prog 23 #[.slice A n c] W fun e w' => ∃ g, e = .returned (.slice (some ⟨g, 0, none⟩) 64 64) ∧ Chg (F4 p q r t) v0 w' ∧ Dk w' p q s1 ∧ Rk (F4 p q r t) w' r t s ∧ BA (F4 p q r t) w' (some ⟨g, 0, none⟩) 64 (sec64 d) ∧ w'.cell? ⟨o8, 1, none⟩ = some (.int .i64 sc) ∧ w'.cell? ⟨o8, 3, none⟩ = some x3 :=
  (sector_any W A n c d (h4.chg h1).at hn).mono fun e w' ⟨e1, e2, e3⟩ =>
    have hcc := h1.trans (Chg.of_below e3)
    ⟨W.heap.size, e1, hcc, h2.below e3, h3.below e3, ba_of_blk e2 (sec64_len _) (fun e => by have := DM.lt h2 h3 _ e; omega), (KO.chg hcc ho).cell 1, (KO.chg hcc ho).cell 3⟩
end
end Go.Proofs.Ythdkcmbdbdhedaa
