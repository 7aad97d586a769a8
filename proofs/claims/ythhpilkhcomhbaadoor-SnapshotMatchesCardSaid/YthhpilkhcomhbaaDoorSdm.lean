/- A disk and its reference; operations. -/
import Derived.Test.YthhpilkhcomhbaaDoorSnw
import Derived.Test.YthhpilkhcomhbaaDoorSrs
import Derived.Test.YthhpilkhcomhbaaDoorSnc
import Derived.Test.YthhpilkhcomhbaaDoorVop
namespace Go.Proofs.YthhpilkhcomhbaaDoor
open Go.ChangeShapes Go.WideShapes Go.ChangeAt Go.RowKit Go.ChangeMaps

def F4 (p q r t : Nat) : Nat → Prop := fun k => k = p ∨ k = q ∨ k = r ∨ k = t
structure DM (w : World) (p q r t : Nat) (s : St) : Prop where
  d : Dk w p q s
  rk : Rk (F4 p q r t) w r t s
  ne : r ≠ p ∧ r ≠ q ∧ t ≠ p ∧ t ≠ q
  ev : Env w
  nz : ¬ F4 p q r t 0
theorem F4_pq {p q r t k : Nat} (h : PQ p q k) : F4 p q r t k := by rcases h with h | h; (· exact .inl h); exact .inr (.inl h)
theorem F4_rt {p q r t k : Nat} (h : PQ r t k) : F4 p q r t k := by rcases h with h | h; (· exact .inr (.inr (.inl h))); exact .inr (.inr (.inr h))
section
variable {w w' : World} {p q r t : Nat} {s s' : St}
theorem Rk.lts {F : Nat → Prop} (h : Rk F w r t s) : r < w.heap.size ∧ t < w.heap.size := by
  obtain ⟨cap, cur, h1, h2, _⟩ := h
  exact ⟨h1.lt, h2.lt⟩
theorem DM.lt (hd : Dk w p q s) {F : Nat → Prop} (hr : Rk F w r t s') : ∀ k, F4 p q r t k → k < w.heap.size := fun k hk => by
  have h1 := hd.1.lt
  have h2 := hd.2.1.lt
  have h3 := hr.lts
  rcases hk with e | e | e | e <;> omega
theorem DM.below (h : DM w p q r t s) (hb : Below w.heap.size w w') : DM w' p q r t s := ⟨h.d.below hb, h.rk.below hb, h.ne, h.ev.below hb, h.nz⟩
theorem Rk.pq (h : Rk (F4 p q r t) w r t s) (hne : r ≠ p ∧ r ≠ q ∧ t ≠ p ∧ t ≠ q) (hc : Chg (PQ p q) w w') : Rk (F4 p q r t) w' r t s :=
  h.chg hc (fun _ => F4_pq) (fun e => by rcases e with e | e; (· exact hne.1 e); exact hne.2.1 e) (fun e => by rcases e with e | e; (· exact hne.2.2.1 e); exact hne.2.2.2 e)
theorem Dk.rt (h : Dk w p q s) (hne : r ≠ p ∧ r ≠ q ∧ t ≠ p ∧ t ≠ q) (hc : Chg (PQ r t) w w') : Dk w' p q s :=
  h.chg hc (fun e => by rcases e with e | e; (· exact hne.1 e.symm); exact hne.2.2.1 e.symm) (fun e => by rcases e with e | e; (· exact hne.2.1 e.symm); exact hne.2.2.2 e.symm)
end
structure ActM where
  k : Int
  e : Nat
  A : Option Addr
  m : Nat
  c : Nat
  d : List UInt8
  n : Int
  b : Int
def ActM.ok (o : ActM) : Prop := o.e < 4294967296 ∧ o.m ≤ o.c ∧ o.c ≤ 9223372036854775807 ∧ o.n ≤ 9223372036854775807 ∧ (0 ≤ o.k ∧ o.k ≤ 255)
/-- An operation on the state. -/
def St.doM (s : St) (o : ActM) : St :=
  if o.k = 0 then (SW s o.e o.d).1 else if o.k = 1 then s.Ar o.n o.b else if o.k = 2 then s.Fl else if o.k = 3 then s.Re else if o.k = 4 then (s.Wr o.n (padS o.d)).1 else s
/-- What failed is not armed. -/
def St.J (s : St) : Prop := s.f = true → s.a = 0
theorem St.J.Wr {s : St} (h : s.J) (i : Int) (d : List UInt8) : (s.Wr i d).1.J := by
  unfold St.Wr
  split
  · exact h
  · rename_i hf
    split
    · unfold St.wr
      split
      · exact fun _ => rfl
      · exact fun e => absurd e hf
    · exact h
theorem St.J.wall : ∀ (n : Nat) {s : St} (h : s.J) (k : Nat) (d : List UInt8), (Go.Proofs.YthhpilkhcomhbaaDoor.wall n s k d).1.J
  | 0, _, h, _, _ => h
  | n + 1, s, h, k, d => by
    unfold Go.Proofs.YthhpilkhcomhbaaDoor.wall
    split
    · exact h
    · split
      · exact St.J.wall n (h.Wr _ _) _ _
      · exact h.Wr _ _
theorem wall_x : ∀ (n : Nat) (s : St) (k : Nat) (d : List UInt8), (wall n s k d).1.x ≤ s.x + n
  | 0, s, _, _ => Nat.le_refl _
  | n + 1, s, k, d => by
    have h1 := St.Wr_x s (k : Int) (padS (d.take 64))
    unfold wall
    split
    · exact Nat.le_add_right _ _
    · split
      · have h2 := wall_x n (s.Wr (k : Int) (padS (d.take 64))).1 (k + 1) (d.drop 64)
        omega
      · omega
theorem St.J.SW {s : St} (h : s.J) (e : Nat) (d : List UInt8) : (Go.Proofs.YthhpilkhcomhbaaDoor.SW s e d).1.J := by
  unfold Go.Proofs.YthhpilkhcomhbaaDoor.SW
  split
  · exact h
  · split
    · exact h
    · split
      · exact h
      · split
        · exact h
        · split
          · exact h
          · have hw := St.J.wall d.length h (baseOf s (1 - slotOf s)) d
            split
            · split
              · exact (hw.Wr _ _).Wr _ _
              · exact hw.Wr _ _
            · exact hw
theorem SW_x (s : St) (e : Nat) (d : List UInt8) : (SW s e d).1.x ≤ s.x + d.length + 2 := by
  have hw := wall_x d.length s (baseOf s (1 - slotOf s)) d
  have h1 := St.Wr_x (wall d.length s (baseOf s (1 - slotOf s)) d).1 ((1 + (1 - slotOf s) : Nat) : Int) (hdr e d.length (crc 0 d))
  have h2 := St.Wr_x ((wall d.length s (baseOf s (1 - slotOf s)) d).1.Wr ((1 + (1 - slotOf s) : Nat) : Int) (hdr e d.length (crc 0 d))).1 0 (padS [UInt8.ofNat (1 - slotOf s)])
  unfold SW
  split
  · show s.x ≤ _; omega
  · split
    · show s.x ≤ _; omega
    · split
      · show s.x ≤ _; omega
      · split
        · show s.x ≤ _; omega
        · split
          · show s.x ≤ _; omega
          · split
            · split <;> omega
            · omega
theorem St.J.doM {s : St} (h : s.J) (o : ActM) : (s.doM o).J := by
  unfold St.doM
  split
  · exact h.SW _ _
  · split
    · unfold St.Ar
      split
      · exact h
      · rename_i hf
        exact fun e => absurd e hf
    · split
      · exact fun _ => rfl
      · split
        · exact fun e => by cases e
        · split
          · exact h.Wr _ _
          · exact h
theorem St.doM_x (s : St) (o : ActM) (hm : o.d.length ≤ 600) : (s.doM o).x ≤ s.x + 602 := by
  unfold St.doM
  split
  · have := SW_x s o.e o.d
    omega
  · split
    · rw [show (s.Ar o.n o.b).x = s.x by unfold St.Ar; split <;> rfl]; omega
    · split
      · exact Nat.le_add_right _ _
      · split
        · exact Nat.le_add_right _ _
        · split
          · have := St.Wr_x s o.n (padS o.d)
            omega
          · omega
theorem Re_Fl {s : St} (h : s.J) (hf : s.f = true) : s.Re.Fl = s := by
  rcases s with ⟨R, f, a, b, x⟩
  have h1 := h hf
  simp only at hf h1
  subst hf h1
  rfl
theorem Re_id {s : St} (hf : s.f = false) : s.Re = s := by
  rcases s with ⟨R, f, a, b, x⟩
  simp only at hf
  subst hf
  rfl
theorem pad_splice2 (d : List UInt8) : splice zeros 0 (d.take 64) = padS d := by
  unfold splice padS zeros
  rw [List.take_zero, List.nil_append, List.drop_replicate, List.length_take, Nat.zero_add]
  congr 2
  omega
theorem copy64 {w : World} {g : Nat} {d : List UInt8} {A : Option Addr} {n c : Nat} (hK : Blk w g 5 (bc zeros).toArray) (hd : BytesAt w A n d) :
    ∃ (k : Value) (W : World), (Builtin.copy_ #[36, 36] 3 #[.slice (some ⟨g, 0, none⟩) 64 64, .slice A n c]).run Tryd.prog w = .ok k W ∧ Blk W g 5 (bc (padS d)).toArray ∧ Chg (fun b => b = g) w W := by
  have hl := hd.1
  rcases Nat.eq_zero_or_pos n with h0 | h0
  · subst h0
    obtain rfl : d = [] := List.eq_nil_of_length_eq_zero hl
    exact ⟨_, _, run_copy_none (P := Tryd.prog) w 36 36 3 5 _ _ _ _ 0 c Tryd.underlying36 size5 rfl, by rw [← pad_splice2]; simpa [splice] using hK, Chg.refl _ _⟩
  · obtain ⟨b, off, rfl, hbl, hcc⟩ := hd.2 h0
    have hcl : (bc (d.take 64)).length = Nat.min n 64 := by rw [bc_len, List.length_take, hl, Nat.min_comm]
    refine ⟨_, _, run_copy_spl (P := Tryd.prog) w 36 36 3 5 g 0 64 64 ⟨b, off, none⟩ n c _ 5 (bc (d.take 64)) Tryd.underlying36 size5 hK hcl (fun j v hj => src_take (n := 64) hcc j v hj) ?_ (bc_one _), ?_, ?_⟩
    · rw [bc_len, bc_len, List.length_take, show zeros.length = 64 from rfl]; omega
    · rw [bc_splice, pad_splice2]
      exact setRow_heap w g (bc zeros).toArray _ 5 _ hK
    · exact (Chg.refl _ _).row rfl
section
variable (v0 : World) (p q r t o8 : Nat) (s : St) (E : Nat) (hne : r ≠ p ∧ r ≠ q ∧ t ≠ p ∧ t ≠ q) (hnz : ¬ F4 p q r t 0) (hev : Env v0) (x0 x2 x3 x4 : Value) (KO : Blk v0 o8 38 #[x0, .int .u32 (E : Int), x2, x3, x4]) (ho : ¬ F4 p q r t o8)
include hne hnz hev KO ho
theorem wd (hE : E < 4294967296) (W : World) (A : Option Addr) (n c : Nat) (d : List UInt8) (hx : s.x + n + 2 < 1000000000) (hn : n ≤ 100000) (hc : n ≤ c) (hcm : c ≤ 9223372036854775807) (h1 : Chg (F4 p q r t) v0 W) (h2 : Dk W p q s) (h3 : Rk (F4 p q r t) W r t s) (h4 : BA (F4 p q r t) W A n d) :
    Calls Tryd.prog 20 #[.pointer (some ⟨p, 0, none⟩), .int .u32 (E : Int), .slice A n c] W fun e w' => e = .returned (.int .i64 (SW s E d).2) ∧ Chg (F4 p q r t) v0 w' ∧ Dk w' p q (SW s E d).1 ∧ Rk (F4 p q r t) w' r t s ∧ w'.cell? ⟨o8, 1, none⟩ = some (.int .u32 (E : Int)) ∧ w'.cell? ⟨o8, 2, none⟩ = some x2 :=
  (SWrite_any W p q s h2 (fun e => hnz (F4_pq e)) (hev.chg h1 hnz) E n c hx hE A d (h4.mono (fun _ => F4_pq)) (by omega) hc hcm).mono fun e w' ⟨e1, e2, e3⟩ =>
    have hcc := h1.trans (e3.mono (fun _ => F4_pq))
    ⟨e1, hcc, e2, h3.pq hne e3, (KO.chg hcc ho).cell 1, (KO.chg hcc ho).cell 2⟩
omit hnz hev in
theorem wr_ (hE : E < 4294967296) (W : World) (A : Option Addr) (n c : Nat) (d : List UInt8) (hx : s.x + n + 2 < 1000000000) (hn : n ≤ 100000) (hc : n ≤ c) (hcm : c ≤ 9223372036854775807) (s1 : St) (h1 : Chg (F4 p q r t) v0 W) (h2 : Dk W p q s1) (h3 : Rk (F4 p q r t) W r t s) (h4 : BA (F4 p q r t) v0 A n d) :
    Calls Tryd.prog 29 #[.pointer (some ⟨r, 0, none⟩), .int .u32 (E : Int), .slice A n c] W fun e w' => e = .returned (.int .i64 (SW s E d).2) ∧ Chg (F4 p q r t) v0 w' ∧ Dk w' p q s1 ∧ Rk (F4 p q r t) w' r t (SW s E d).1 ∧ w'.cell? ⟨o8, 1, none⟩ = some (.int .u32 (E : Int)) ∧ w'.cell? ⟨o8, 2, none⟩ = some x2 :=
  (RSW_any (F4 p q r t) W r t s h3 (.inr (.inr (.inl rfl))) (.inr (.inr (.inr rfl))) (DM.lt h2 h3) E n c hx hE A d (h4.chg h1) hn hc hcm).mono fun e w' ⟨e1, e2, e3⟩ =>
    have hcc := h1.trans (e3.mono (fun _ => F4_rt))
    ⟨e1, hcc, h2.rt hne e3, e2, (KO.chg hcc ho).cell 1, (KO.chg hcc ho).cell 2⟩
omit hne hnz hev in
theorem cp_ (W : World) (A : Option Addr) (n c : Nat) (d : List UInt8) (hn : n ≤ 100000) (s1 : St) (h1 : Chg (F4 p q r t) v0 W) (h2 : Dk W p q s1) (h3 : Rk (F4 p q r t) W r t s) (h4 : BA (F4 p q r t) v0 A n d) :
    Calls Tryd.prog 21 #[.slice A n c] W fun e w' => ∃ A' c', e = .returned (.slice A' n c') ∧ n ≤ c' ∧ c' ≤ 9223372036854775807 ∧ Chg (F4 p q r t) v0 w' ∧ Dk w' p q s1 ∧ Rk (F4 p q r t) w' r t s ∧ BA (F4 p q r t) w' A' n d ∧ w'.cell? ⟨o8, 1, none⟩ = some (.int .u32 (E : Int)) ∧ w'.cell? ⟨o8, 2, none⟩ = some x2 :=
  (cp_any A n c d W (h4.chg h1).at hn).mono fun e w' ⟨v, e1, e2, e3⟩ => by
    have hcc := h1.trans (Chg.of_below e3)
    obtain ⟨A', c', rfl, hba, hc1, hc2⟩ := own_bytes3 (F := F4 p q r t) e2 (DM.lt h2 h3)
    have hl : d.length = n := h4.1
    rw [hl] at hba hc1 e1
    exact ⟨A', c', e1, hc1, hc2, hcc, h2.below e3, h3.below e3, hba, (KO.chg hcc ho).cell 1, (KO.chg hcc ho).cell 2⟩
end
end Go.Proofs.YthhpilkhcomhbaaDoor
